/- Layer 37: is what was read in order right, as the document says (gen-moe.py wrote this). -/
import Derived.Test.YthjhiogbnacmdaaMoC
namespace Go.Proofs.Ythjhiogbnacmdaa.mo
open Go.Sort (grow)
open Go.ChangeShapes Go.WideShapes Go.ChangeAt Go.RowKit kit cut
set_option maxRecDepth 100000

theorem str_same (a b : ByteArray) : (a.toList == b.toList) = decide (a = b) := by
  by_cases h : a = b
  · rw [decide_eq_true h, h, beq_self_eq_true]
  · rw [decide_eq_false h, beq_eq_false_iff_ne, ByteArray.toList_eq, ByteArray.toList_eq]
    intro e
    exact h (ByteArray.ext (Array.toList_inj.1 e))
/-- What is answered. -/
def OrdR (A R : List Ms) (e : Ending) : Prop := ∃ b, e = .returned (.bool b) ∧ (b = true ↔ OrdS 0 A R ∧ OrdS 1 A R)
theorem OrdR.no {A R : List Ms} {e : Ending} {s : Nat} (he : e = .returned (.bool false)) (hs : s < 2) (h : ¬ OrdS (s : Int) A R) : OrdR A R e := ⟨false, he, fun q => absurd q Bool.false_ne_true, fun q => by
  have : s = 0 ∨ s = 1 := by omega
  rcases this with rfl | rfl
  · exact absurd q.1 h
  · exact absurd q.2 h⟩
theorem fil_same {s : Int} {L : List Ms} {x : Ms} (h : ¬ (!x.lo && decide (x.s = s)) = true) : (fil s (L ++ [x])).length = (fil s L).length := by rw [fil_snoc, if_neg h]
theorem fil_more {s : Int} {L : List Ms} {x : Ms} (h : (!x.lo && decide (x.s = s)) = true) : (fil s (L ++ [x])).length = (fil s L).length + 1 := by rw [fil_snoc, if_pos h, List.length_append]; rfl
set_option maxHeartbeats 8000000 in
theorem order_any {w : World} {bA bR : Nat} {vA vR : Value} {A R : List Ms} (qA : QM w bA vA A) (qR : QM w bR vR R) (hA : A.length ≤ 20) (hR : R.length ≤ 20) :
    Calls Try.prog 12 #[vA, vR] w fun e w' => OrdR A R e ∧ Below w.heap.size w w' := by
  obtain ⟨B0, hB0⟩ : ∃ B0, w.heap.size = B0 := ⟨_, rfl⟩
  have HA := Lib.hid (show ∀ w', Below B0 w w' → QM w' bA vA A from fun w' h => qA.below h (by omega))
  have HR := Lib.hid (show ∀ w', Below B0 w w' → QM w' bR vR R from fun w' h => qR.below h (by omega))
  obtain ⟨oA, cA, hva, -, -⟩ := qA.shape
  obtain ⟨oR, cR, hvr, -, -⟩ := qR.shape
  obtain ⟨nA, hnA⟩ : ∃ n, A.length = n := ⟨_, rfl⟩
  obtain ⟨nR, hnR⟩ : ∃ n, R.length = n := ⟨_, rfl⟩
  rw [hnA] at hva
  rw [hnR] at hvr
  subst hva hvr
  rw [hB0]
  have HB0 := Lib.hid hB0
  have HNA := Lib.hid hnA
  have HNR := Lib.hid hnR
  have hA20 : nA ≤ 20 := by omega
  have hR20 : nR ≤ 20 := by omega
  have bel1 : Below B0 w w := Below.refl _ _
  clear qA qR hA hR hB0 hnA hnR
  go_enter Try.func12, Try.ntmps12
  go_wp2_with fail
  go_loopw [5] (fun s5 wr => ∃ s : Nat, s5 = .int .i64 (s : Nat) ∧ s ≤ 2 ∧ (∀ t : Nat, t < s → OrdS (t : Int) A R) ∧ Below B0 w wr) (fun s5 _ => 2 - (intOf s5).toNat)
  case atStart => exact ⟨0, rfl, Nat.zero_le _, fun t h => absurd h (Nat.not_lt_zero t), bel1⟩
  case round =>
    rename World => wr
    clear bel1
    obtain ⟨s, rfl, hs, ho, bel⟩ := hrel
    by_cases hlt : s < 2
    · have hs2 : (s : Int) < 2 := by omega
      have HO := Lib.hid ho
      clear ho
      go_wp2_with fail
      go_loopw [6, 7] (fun s6 s7 wy => ∃ k i : Nat, s6 = .int .i64 (k : Nat) ∧ s7 = .int .i64 (i : Nat) ∧ i ≤ nR ∧ k ≤ nA ∧ OrdS (s : Int) A (R.take i) ∧ (fil (s : Int) (A.take k)).length = (fil (s : Int) (R.take i)).length ∧ Below B0 w wy) (fun _ s7 _ => nR - (intOf s7).toNat)
      case atStart => exact ⟨0, 0, rfl, rfl, Nat.zero_le _, Nat.zero_le _, (by rw [List.take_zero]; exact ord_nil _ _), (by rw [List.take_zero, List.take_zero]), bel⟩
      case round =>
        rename World => wy
        clear bel
        obtain ⟨k, i, rfl, rfl, hi, hk, hos, hfl, bel⟩ := hrel
        by_cases hir : i < nR
        · obtain ⟨x, hx⟩ : ∃ x, R[i]? = some x := ⟨_, List.getElem?_eq_getElem (by rw [HNR.out]; exact hir)⟩
          obtain ⟨rh, roff, hoR, -, -, -, -, CX⟩ := msg_at (HR.out _ bel) hx
          subst hoR
          have hi0 : (0 : Int) ≤ (i : Int) := by omega
          have hi1 : (i : Int) < (nR : Int) := by omega
          have HX := Lib.hid hx
          have HOS := Lib.hid (And.intro hos hfl)
          obtain ⟨xs, xl, xd⟩ := x
          have x0 : wy.cell? ⟨rh, roff + i * 5, none⟩ = some (.int .i64 xs) := CX.cell 0 rfl
          have x2 : wy.cell? ⟨rh, roff + i * 5 + 2, none⟩ = some (.bool xl) := CX.cell 2 rfl
          clear hx hos hfl CX
          have HBE := Lib.hid bel
          by_cases hm : (!xl && decide (xs = (s : Int))) = true
          · simp only [Bool.and_eq_true, decide_eq_true_eq, Bool.not_eq_true'] at hm
            obtain ⟨rfl, rfl⟩ := hm
            have HMX := Lib.hid (show (!(Ms.mk (s : Int) false xd).lo && decide ((Ms.mk (s : Int) false xd).s = (s : Int))) = true by simp)
            go_upto_block 4 with fail
            clear x0 x2
            go_cut [6] (fun s6 wx => ∃ k : Nat, s6 = .int .i64 (k : Nat) ∧ k ≤ nA ∧ (fil (s : Int) (A.take k)).length = (fil (s : Int) (R.take i)).length ∧ (k = nA ∨ ∃ y, A[k]? = some y ∧ (!y.lo && decide (y.s = (s : Int))) = true) ∧ Below B0 w wx)
            case first =>
              go_wp2_with fail
              go_loopw [6] (fun s6 wz => ∃ k : Nat, s6 = .int .i64 (k : Nat) ∧ k ≤ nA ∧ (fil (s : Int) (A.take k)).length = (fil (s : Int) (R.take i)).length ∧ Below B0 w wz) (fun s6 _ => nA - (intOf s6).toNat)
              case atStart => exact ⟨k, rfl, hk, HOS.out.2, bel⟩
              case round =>
                rename World => wz
                clear bel hk
                obtain ⟨k, rfl, hk, hfl, bel⟩ := hrel
                by_cases hka : k < nA
                · obtain ⟨y, hy⟩ : ∃ y, A[k]? = some y := ⟨_, List.getElem?_eq_getElem (by rw [HNA.out]; exact hka)⟩
                  obtain ⟨ah, aoff, hoA, -, -, -, -, CY⟩ := msg_at (HA.out _ bel) hy
                  subst hoA
                  have hk0 : (0 : Int) ≤ (k : Int) := by omega
                  have hk1 : (k : Int) < (nA : Int) := by omega
                  have HYY := Lib.hid hy
                  have HFL := Lib.hid hfl
                  have HB := Lib.hid bel
                  obtain ⟨ys, yl, yd⟩ := y
                  have y0 : wz.cell? ⟨ah, aoff + k * 5, none⟩ = some (.int .i64 ys) := CY.cell 0 rfl
                  have y2 : wz.cell? ⟨ah, aoff + k * 5 + 2, none⟩ = some (.bool yl) := CY.cell 2 rfl
                  clear hy hfl bel CY
                  cases yl
                  · by_cases e : ys = (s : Int)
                    · subst e
                      have HD := Lib.hid (show k = nA ∨ ∃ y, A[k]? = some y ∧ (!y.lo && decide (y.s = (s : Int))) = true from .inr ⟨_, HYY.out, by simp⟩)
                      go_wp2_with fail
                      go_meet
                      exact ⟨k, rfl, by omega, HFL.out, HD.out, HB.out⟩
                    · have HF2 := Lib.hid (show (fil (s : Int) (A.take (k + 1))).length = (fil (s : Int) (R.take i)).length by rw [take_snoc HYY.out, fil_same (by simp [e])]; exact HFL.out)
                      go_wp2_with fail
                      go_roundw
                      case rel => exact ⟨k + 1, by go_num, by omega, HF2.out, HB.out⟩
                      case measure => simp [intOf]; omega
                  · have HF2 := Lib.hid (show (fil (s : Int) (A.take (k + 1))).length = (fil (s : Int) (R.take i)).length by rw [take_snoc HYY.out, fil_same (by simp)]; exact HFL.out)
                    go_wp2_with fail
                    go_roundw
                    case rel => exact ⟨k + 1, by go_num, by omega, HF2.out, HB.out⟩
                    case measure => simp [intOf]; omega
                · obtain rfl : k = nA := by omega
                  have HFL := Lib.hid hfl
                  have HB := Lib.hid bel
                  have HD := Lib.hid (show k = k ∨ ∃ y, A[k]? = some y ∧ (!y.lo && decide (y.s = (s : Int))) = true from .inl rfl)
                  clear bel hfl
                  go_wp2_with fail
                  go_meet
                  exact ⟨k, rfl, Nat.le_refl _, HFL.out, .inl rfl, HB.out⟩
            case rest =>
              clear bel hk HBE
              obtain ⟨k, rfl, hk, hfl, hd, bel⟩ := hcut
              generalize wc = wz at *
              by_cases hka : k = nA
              · subst hka
                have HNO := Lib.hid (show ¬ OrdS (s : Int) A R from fun h => by
                  have h1 := ord_take h (i + 1)
                  rw [take_snoc HX.out] at h1
                  obtain ⟨_, y, hy, _⟩ := (ord_step HMX.out).1 h1
                  rw [← hfl, show A.take k = A by rw [← HNA.out]; exact List.take_length] at hy
                  rw [List.getElem?_eq_none (Nat.le_refl _)] at hy
                  cases hy)
                have HB := Lib.hid bel
                have hbs := bel.size
                clear hfl hd bel
                go_upto_region 11 with fail
                refine wp_region_quiet_below (by kernel_rfl) (by kernel_rfl) ?_
                repeat (any_goals (first | go_big_quiet_step (fail) | quiet_step (fail)))
                refine wpQuiet_nil ?_
                intro _ hw'
                obtain ⟨⟨dq, osq⟩, hw''⟩ := hw'
                subst hw''
                have HB2 := Lib.hid (HB.out.trans ((below_regrown wz dq osq).mono (by rw [← HB0.out]; exact hbs)))
                go_wp2_with fail
                go_ret
                exact ⟨OrdR.no rfl hlt HNO.out, HB2.out⟩
              · obtain ⟨y, hy, hmy⟩ := hd.resolve_left hka
                obtain ⟨ah, aoff, hoA, -, -, -, -, CY⟩ := msg_at (HA.out _ bel) hy
                subst hoA
                obtain ⟨rh', roff', hoR', -, -, -, -, CX⟩ := msg_at (HR.out _ bel) HX.out
                injection hoR' with hp4
                injection hp4 with hp5 hp6
                subst hp5
                subst hp6
                have hk0 : (0 : Int) ≤ (k : Int) := by omega
                have hk1 : (k : Int) < (nA : Int) := by omega
                have hk2 : ¬ (k : Int) = (nA : Int) := by omega
                have hke : ((k : Int) == (nA : Int)) = false := beq_eq_false_iff_ne.2 hk2
                obtain ⟨ys, yl, yd⟩ := y
                have y4 : wz.cell? ⟨ah, aoff + k * 5 + 4, none⟩ = some (.string yd) := CY.cell 4 rfl
                have x4 : wz.cell? ⟨rh, roff + i * 5 + 4, none⟩ = some (.string xd) := CX.cell 4 rfl
                have q4 := cell_regrown y4
                have r4 := cell_regrown x4
                have hat := fil_at hy hmy
                rw [hfl] at hat
                have HAT := Lib.hid hat
                have HFL := Lib.hid hfl
                have HYY := Lib.hid (And.intro hy hmy)
                have HB := Lib.hid bel
                have hbs := bel.size
                clear y4 x4 CX CY hy hmy hat hfl hd bel hka
                go_upto_region 11 with fail
                by_cases e : yd = xd
                · have d3 : (yd.toList == xd.toList) = true := by rw [str_same]; exact decide_eq_true e
                  have HEE := Lib.hid e
                  clear e
                  refine wp_region_quiet_below (by kernel_rfl) (by kernel_rfl) ?_
                  repeat (any_goals (first | go_big_quiet_step (fail) | quiet_step (fail)))
                  refine wpQuiet_nil ?_
                  intro _ hw'
                  obtain ⟨⟨dq, osq⟩, hw''⟩ := hw'
                  subst hw''
                  have HB2 := Lib.hid (HB.out.trans ((below_regrown wz dq osq).mono (by rw [← HB0.out]; exact hbs)))
                  have HO2 := Lib.hid (show OrdS (s : Int) A (R.take (i + 1)) by rw [take_snoc HX.out]; exact (ord_step HMX.out).2 ⟨HOS.out.1, _, HAT.out, HEE.out⟩)
                  have HF2 := Lib.hid (show (fil (s : Int) (A.take (k + 1))).length = (fil (s : Int) (R.take (i + 1))).length by rw [take_snoc HX.out, take_snoc HYY.out.1, fil_more HMX.out, fil_more HYY.out.2, HFL.out])
                  clear q4 r4
                  generalize grow (redrawn wz dq) osq = w9 at *
                  go_wp2_with fail
                  go_roundw
                  case rel => exact ⟨k + 1, i + 1, by go_num, by go_num, by omega, by omega, HO2.out, HF2.out, HB2.out⟩
                  case measure => simp [intOf]; omega
                · have d3 : (yd.toList == xd.toList) = false := by rw [str_same]; exact decide_eq_false e
                  have HEE := Lib.hid e
                  clear e
                  refine wp_region_quiet_below (by kernel_rfl) (by kernel_rfl) ?_
                  repeat (any_goals (first | go_big_quiet_step (fail) | quiet_step (fail)))
                  refine wpQuiet_nil ?_
                  intro _ hw'
                  obtain ⟨⟨dq, osq⟩, hw''⟩ := hw'
                  subst hw''
                  have HB2 := Lib.hid (HB.out.trans ((below_regrown wz dq osq).mono (by rw [← HB0.out]; exact hbs)))
                  have HNO := Lib.hid (show ¬ OrdS (s : Int) A R from fun h => by
                    have h1 := ord_take h (i + 1)
                    rw [take_snoc HX.out] at h1
                    obtain ⟨_, y, hy, hyd⟩ := (ord_step HMX.out).1 h1
                    rw [HAT.out] at hy
                    cases hy
                    exact HEE.out hyd)
                  clear q4 r4
                  generalize grow (redrawn wz dq) osq = w9 at *
                  go_wp2_with fail
                  go_ret
                  exact ⟨OrdR.no rfl hlt HNO.out, HB2.out⟩
          · have HO2 := Lib.hid (show OrdS (s : Int) A (R.take (i + 1)) by rw [take_snoc HX.out]; exact (ord_skip hm).2 HOS.out.1)
            have HF2 := Lib.hid (show (fil (s : Int) (A.take k)).length = (fil (s : Int) (R.take (i + 1))).length by rw [take_snoc HX.out, fil_same hm]; exact HOS.out.2)
            clear bel
            cases xl
            · have e : ¬ xs = (s : Int) := by simpa using hm
              have HE := Lib.hid hm
              clear hm
              go_wp2_with fail
              go_roundw
              case rel => exact ⟨k, i + 1, by go_num, by go_num, by omega, by omega, HO2.out, HF2.out, HBE.out⟩
              case measure => simp [intOf]; omega
            · clear hm
              go_wp2_with fail
              go_roundw
              case rel => exact ⟨k, i + 1, by go_num, by go_num, by omega, by omega, HO2.out, HF2.out, HBE.out⟩
              case measure => simp [intOf]; omega
        · obtain rfl : i = nR := by omega
          have hta : R.take i = R := by rw [← HNR.out]; exact List.take_length
          rw [hta] at hos
          have HO2 := Lib.hid (show ∀ t : Nat, t < s + 1 → OrdS (t : Int) A R from fun t ht => by
            by_cases e : t = s
            · subst e; exact hos
            · exact HO.out t (by omega))
          have HB := Lib.hid bel
          clear bel hos hfl hta
          go_wp2_with fail
          go_roundw
          case rel => exact ⟨s + 1, by go_num, by omega, HO2.out, HB.out⟩
          case measure => simp [intOf]; omega
    · obtain rfl : s = 2 := by omega
      have HB := Lib.hid bel
      have HO := Lib.hid ho
      clear bel ho
      go_wp2_with fail
      go_ret
      exact ⟨⟨true, rfl, fun _ => ⟨HO.out 0 (by decide), HO.out 1 (by decide)⟩, fun _ => rfl⟩, HB.out⟩
end Go.Proofs.Ythjhiogbnacmdaa.mo
