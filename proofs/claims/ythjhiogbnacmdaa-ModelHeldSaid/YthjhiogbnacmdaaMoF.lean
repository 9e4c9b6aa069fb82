/- Layer 37: is what was read loose right, as the document says (gen-moe.py wrote this). -/
import Derived.Test.YthjhiogbnacmdaaMoE
namespace Go.Proofs.Ythjhiogbnacmdaa.mo
open Go.Sort (grow)
open Go.ChangeShapes Go.WideShapes Go.ChangeAt Go.RowKit kit cut
set_option maxRecDepth 100000

theorem eq_me (x y : Ms) (W : World) : (binOp .eql 71 (.agg (me x)) (.agg (me y))).run Try.prog W = .ok (.bool (eqM x y)) W := by
  have ht : x.d.toList = y.d.toList ↔ x.d = y.d := by have h := str_same x.d y.d; by_cases e : x.d = y.d <;> simp_all
  unfold me eqM
  go_simp
  by_cases h1 : x.s = y.s <;> by_cases h2 : x.lo = y.lo <;> by_cases h3 : x.d = y.d <;> simp [h1, h2, h3, ht]
/-- What is answered. -/
def LseR (A R : List Ms) (e : Ending) : Prop := ∃ b, e = .returned (.bool b) ∧ (b = true ↔ Lse A R)
set_option maxHeartbeats 8000000 in
theorem loose_doc {w : World} {bA bR : Nat} {vA vR : Value} {A R : List Ms} (qA : QM w bA vA A) (qR : QM w bR vR R) (hA : A.length ≤ 20) (hR : R.length ≤ 20) :
    Calls Try.prog 13 #[vA, vR] w fun e w' => LseR A R e ∧ Below w.heap.size w w' := by
  obtain ⟨B0, hB0⟩ : ∃ B0, w.heap.size = B0 := ⟨_, rfl⟩
  have HA := Lib.hid (show ∀ w', Below B0 w w' → QM w' bA vA A from fun w' h => qA.below h (by omega))
  have HR := Lib.hid (show ∀ w', Below B0 w w' → QM w' bR vR R from fun w' h => qR.below h (by omega))
  obtain ⟨oA, cA, hva, -, -⟩ := qA.shape
  obtain ⟨oR, cR, hvr, -, -⟩ := qR.shape
  obtain ⟨nA, hnA⟩ : ∃ n, A.length = n := ⟨_, rfl⟩
  obtain ⟨nR, hnR⟩ : ∃ n, R.length = n := ⟨_, rfl⟩
  rw [hnA] at hva
  rw [hnR] at hvr
  subst hva hvr
  rw [hB0]
  have HB0 := Lib.hid hB0
  have HNA := Lib.hid hnA
  have HNR := Lib.hid hnR
  have hA20 : nA ≤ 20 := by omega
  have hR20 : nR ≤ 20 := by omega
  have bel1 : Below B0 w w := Below.refl _ _
  clear qA qR hA hR hB0 hnA hnR
  go_enter Try.func13, Try.ntmps13
  go_wp2_with fail
  go_loopw [5] (fun s5 wr => ∃ i : Nat, s5 = .int .i64 (i : Nat) ∧ i ≤ nR ∧ (∀ x ∈ R.take i, x.lo = true → cM x R ≤ cM x A) ∧ Below B0 w wr) (fun s5 _ => nR - (intOf s5).toNat)
  case atStart => exact ⟨0, rfl, Nat.zero_le _, (by rw [List.take_zero]; exact fun x h => absurd h List.not_mem_nil), bel1⟩
  case round =>
    rename World => wr
    clear bel1
    obtain ⟨i, rfl, hi, ho, bel⟩ := hrel
    by_cases hlt : i < nR
    · obtain ⟨x, hx⟩ : ∃ x, R[i]? = some x := ⟨_, List.getElem?_eq_getElem (by rw [HNR.out]; exact hlt)⟩
      obtain ⟨rh, roff, hoR, -, -, -, -, -⟩ := msg_at (HR.out _ bel) hx
      subst hoR
      have hi0 : (0 : Int) ≤ (i : Int) := by omega
      have hi1 : (i : Int) < (nR : Int) := by omega
      have HX := Lib.hid hx
      have HO := Lib.hid ho
      clear hx ho
      go_upto_block 2 with fail
      go_cut [6] (fun sc wx => sc = .int .i64 (cM x R : Nat) ∧ Below B0 w wx)
      case first =>
        go_wp2_with fail
        go_loopw [6, 8] (fun sc sk wy => ∃ k : Nat, sk = .int .i64 (k : Nat) ∧ k ≤ nR ∧ sc = .int .i64 (cM x (R.take k) : Nat) ∧ Below B0 w wy) (fun _ sk _ => nR - (intOf sk).toNat)
        case atStart => exact ⟨0, rfl, Nat.zero_le _, (by rw [List.take_zero]; rfl), bel⟩
        case round =>
          rename World => wy
          clear bel
          obtain ⟨k, rfl, hk, hc, bel⟩ := hrel
          obtain ⟨cc, hcc⟩ : ∃ cc, cM x (R.take k) = cc := ⟨_, rfl⟩
          rw [hcc] at hc
          subst hc
          have hcl : cc ≤ 20 := by rw [← hcc]; have := cM_le x (R.take k); rw [List.length_take] at this; omega
          by_cases hkn : k < nR
          · obtain ⟨y, hy⟩ : ∃ y, R[k]? = some y := ⟨_, List.getElem?_eq_getElem (by rw [HNR.out]; exact hkn)⟩
            obtain ⟨rh', roff', hoR', -, -, -, -, CX⟩ := msg_at (HR.out _ bel) HX.out
            injection hoR' with hp4
            injection hp4 with hp5 hp6
            subst hp5
            subst hp6
            obtain ⟨ah, aoff, hoA, -, -, -, -, CY⟩ := msg_at (HR.out _ bel) hy
            injection hoA with hp4
            injection hp4 with hp5 hp6
            subst hp5
            subst hp6
            have hk0 : (0 : Int) ≤ (k : Int) := by omega
            have hk1 : (k : Int) < (nR : Int) := by omega
            obtain ⟨bb, hbb⟩ : ∃ bb, eqM y x = bb := ⟨_, rfl⟩
            have heq : ∀ W, (binOp .eql 71 (.agg #[.int .i64 y.s, .int .i64 0, .bool y.lo, .int .u32 0, .string y.d]) (.agg #[.int .i64 x.s, .int .i64 0, .bool x.lo, .int .u32 0, .string x.d])).run Try.prog W = .ok (.bool bb) W := fun W => by rw [← hbb]; exact eq_me y x W
            have HCC := Lib.hid (show cM x (R.take (k + 1)) = cc + if bb = true then 1 else 0 by rw [take_snoc hy, cM_snoc, hcc, hbb])
            have szx := szMe x
            have szy := szMe y
            unfold me at szx szy CX CY
            have HB := Lib.hid bel
            have hbs := bel.size
            clear hbb hcc hy bel
            go_upto_region 8 with fail
            cases bb
            · refine wp_region_quiet_below (by kernel_rfl) (by kernel_rfl) ?_
              repeat (any_goals (first | (refine wpQuiet_load_at (by rfl) 71 (.tmp 24) (by rfl) rh (roff + k * 5) (by rfl) #[.int .i64 y.s, .int .i64 0, .bool y.lo, .int .u32 0, .string y.d] _ Try.underlying71 (by rfl) szy (fun w' hw' => by obtain ⟨q, rfl⟩ := hw'; exact CY.below (below_regrown wy _ _) CY.lt) ?_) | (refine wpQuiet_load_at (by rfl) 71 (.tmp 28) (by rfl) rh (roff + i * 5) (by rfl) #[.int .i64 x.s, .int .i64 0, .bool x.lo, .int .u32 0, .string x.d] _ Try.underlying71 (by rfl) szx (fun w' hw' => by obtain ⟨q, rfl⟩ := hw'; exact CX.below (below_regrown wy _ _) CX.lt) ?_) | go_big_quiet_step (fail) | quiet_step (fail)))
              refine wpQuiet_nil ?_
              intro _ hw'
              obtain ⟨⟨dq, osq⟩, hw''⟩ := hw'
              subst hw''
              have HB2 := Lib.hid (HB.out.trans ((below_regrown wy dq osq).mono (by rw [← HB0.out]; exact hbs)))
              clear CX CY heq szx szy
              generalize grow (redrawn wy dq) osq = w9 at *
              go_wp2_with fail
              go_roundw
              case rel => exact ⟨k + 1, by go_num, by omega, by rw [HCC.out]; rfl, HB2.out⟩
              case measure => simp [intOf]; omega
            · refine wp_region_quiet_below (by kernel_rfl) (by kernel_rfl) ?_
              repeat (any_goals (first | (refine wpQuiet_load_at (by rfl) 71 (.tmp 24) (by rfl) rh (roff + k * 5) (by rfl) #[.int .i64 y.s, .int .i64 0, .bool y.lo, .int .u32 0, .string y.d] _ Try.underlying71 (by rfl) szy (fun w' hw' => by obtain ⟨q, rfl⟩ := hw'; exact CY.below (below_regrown wy _ _) CY.lt) ?_) | (refine wpQuiet_load_at (by rfl) 71 (.tmp 28) (by rfl) rh (roff + i * 5) (by rfl) #[.int .i64 x.s, .int .i64 0, .bool x.lo, .int .u32 0, .string x.d] _ Try.underlying71 (by rfl) szx (fun w' hw' => by obtain ⟨q, rfl⟩ := hw'; exact CX.below (below_regrown wy _ _) CX.lt) ?_) | go_big_quiet_step (fail) | quiet_step (fail)))
              refine wpQuiet_nil ?_
              intro _ hw'
              obtain ⟨⟨dq, osq⟩, hw''⟩ := hw'
              subst hw''
              have HB2 := Lib.hid (HB.out.trans ((below_regrown wy dq osq).mono (by rw [← HB0.out]; exact hbs)))
              clear CX CY heq szx szy
              generalize grow (redrawn wy dq) osq = w9 at *
              go_wp2_with fail
              go_roundw
              case rel => exact ⟨k + 1, by go_num, by omega, by rw [HCC.out]; rfl, HB2.out⟩
              case measure => simp [intOf]; omega
          · obtain rfl : k = nR := by omega
            have hta : R.take k = R := by rw [← HNR.out]; exact List.take_length
            rw [hta] at hcc
            have HB := Lib.hid (show Value.int .i64 (cc : Nat) = .int .i64 (cM x R : Nat) ∧ Below B0 w wy by rw [hcc]; exact ⟨rfl, bel⟩)
            clear bel hcc hta
            go_wp2_with fail
            go_meet
            exact HB.out
      case rest =>
      clear bel
      obtain ⟨hca, bel⟩ := hcut
      obtain ⟨ca, hca2⟩ : ∃ ca, cM x R = ca := ⟨_, rfl⟩
      rw [hca2] at hca
      subst hca
      have HCA := Lib.hid hca2
      clear hca2
      generalize wc = w4 at *
      go_upto_block 4 with fail
      go_cut [7] (fun sc wx => sc = .int .i64 (cM x A : Nat) ∧ Below B0 w wx)
      case first =>
        go_wp2_with fail
        go_loopw [7, 9] (fun sc sk wy => ∃ k : Nat, sk = .int .i64 (k : Nat) ∧ k ≤ nA ∧ sc = .int .i64 (cM x (A.take k) : Nat) ∧ Below B0 w wy) (fun _ sk _ => nA - (intOf sk).toNat)
        case atStart => exact ⟨0, rfl, Nat.zero_le _, (by rw [List.take_zero]; rfl), bel⟩
        case round =>
          rename World => wy
          clear bel
          obtain ⟨k, rfl, hk, hc, bel⟩ := hrel
          obtain ⟨cc, hcc⟩ : ∃ cc, cM x (A.take k) = cc := ⟨_, rfl⟩
          rw [hcc] at hc
          subst hc
          have hcl : cc ≤ 20 := by rw [← hcc]; have := cM_le x (A.take k); rw [List.length_take] at this; omega
          by_cases hkn : k < nA
          · obtain ⟨y, hy⟩ : ∃ y, A[k]? = some y := ⟨_, List.getElem?_eq_getElem (by rw [HNA.out]; exact hkn)⟩
            obtain ⟨rh', roff', hoR', -, -, -, -, CX⟩ := msg_at (HR.out _ bel) HX.out
            injection hoR' with hp4
            injection hp4 with hp5 hp6
            subst hp5
            subst hp6
            obtain ⟨ah, aoff, hoA, -, -, -, -, CY⟩ := msg_at (HA.out _ bel) hy
            subst hoA
            have hk0 : (0 : Int) ≤ (k : Int) := by omega
            have hk1 : (k : Int) < (nA : Int) := by omega
            obtain ⟨bb, hbb⟩ : ∃ bb, eqM y x = bb := ⟨_, rfl⟩
            have heq : ∀ W, (binOp .eql 71 (.agg #[.int .i64 y.s, .int .i64 0, .bool y.lo, .int .u32 0, .string y.d]) (.agg #[.int .i64 x.s, .int .i64 0, .bool x.lo, .int .u32 0, .string x.d])).run Try.prog W = .ok (.bool bb) W := fun W => by rw [← hbb]; exact eq_me y x W
            have HCC := Lib.hid (show cM x (A.take (k + 1)) = cc + if bb = true then 1 else 0 by rw [take_snoc hy, cM_snoc, hcc, hbb])
            have szx := szMe x
            have szy := szMe y
            unfold me at szx szy CX CY
            have HB := Lib.hid bel
            have hbs := bel.size
            clear hbb hcc hy bel
            go_upto_region 13 with fail
            cases bb
            · refine wp_region_quiet_below (by kernel_rfl) (by kernel_rfl) ?_
              repeat (any_goals (first | (refine wpQuiet_load_at (by rfl) 71 (.tmp 41) (by rfl) ah (aoff + k * 5) (by rfl) #[.int .i64 y.s, .int .i64 0, .bool y.lo, .int .u32 0, .string y.d] _ Try.underlying71 (by rfl) szy (fun w' hw' => by obtain ⟨q, rfl⟩ := hw'; exact CY.below (below_regrown wy _ _) CY.lt) ?_) | (refine wpQuiet_load_at (by rfl) 71 (.tmp 45) (by rfl) rh (roff + i * 5) (by rfl) #[.int .i64 x.s, .int .i64 0, .bool x.lo, .int .u32 0, .string x.d] _ Try.underlying71 (by rfl) szx (fun w' hw' => by obtain ⟨q, rfl⟩ := hw'; exact CX.below (below_regrown wy _ _) CX.lt) ?_) | go_big_quiet_step (fail) | quiet_step (fail)))
              refine wpQuiet_nil ?_
              intro _ hw'
              obtain ⟨⟨dq, osq⟩, hw''⟩ := hw'
              subst hw''
              have HB2 := Lib.hid (HB.out.trans ((below_regrown wy dq osq).mono (by rw [← HB0.out]; exact hbs)))
              clear CX CY heq szx szy
              generalize grow (redrawn wy dq) osq = w9 at *
              go_wp2_with fail
              go_roundw
              case rel => exact ⟨k + 1, by go_num, by omega, by rw [HCC.out]; rfl, HB2.out⟩
              case measure => simp [intOf]; omega
            · refine wp_region_quiet_below (by kernel_rfl) (by kernel_rfl) ?_
              repeat (any_goals (first | (refine wpQuiet_load_at (by rfl) 71 (.tmp 41) (by rfl) ah (aoff + k * 5) (by rfl) #[.int .i64 y.s, .int .i64 0, .bool y.lo, .int .u32 0, .string y.d] _ Try.underlying71 (by rfl) szy (fun w' hw' => by obtain ⟨q, rfl⟩ := hw'; exact CY.below (below_regrown wy _ _) CY.lt) ?_) | (refine wpQuiet_load_at (by rfl) 71 (.tmp 45) (by rfl) rh (roff + i * 5) (by rfl) #[.int .i64 x.s, .int .i64 0, .bool x.lo, .int .u32 0, .string x.d] _ Try.underlying71 (by rfl) szx (fun w' hw' => by obtain ⟨q, rfl⟩ := hw'; exact CX.below (below_regrown wy _ _) CX.lt) ?_) | go_big_quiet_step (fail) | quiet_step (fail)))
              refine wpQuiet_nil ?_
              intro _ hw'
              obtain ⟨⟨dq, osq⟩, hw''⟩ := hw'
              subst hw''
              have HB2 := Lib.hid (HB.out.trans ((below_regrown wy dq osq).mono (by rw [← HB0.out]; exact hbs)))
              clear CX CY heq szx szy
              generalize grow (redrawn wy dq) osq = w9 at *
              go_wp2_with fail
              go_roundw
              case rel => exact ⟨k + 1, by go_num, by omega, by rw [HCC.out]; rfl, HB2.out⟩
              case measure => simp [intOf]; omega
          · obtain rfl : k = nA := by omega
            have hta : A.take k = A := by rw [← HNA.out]; exact List.take_length
            rw [hta] at hcc
            have HB := Lib.hid (show Value.int .i64 (cc : Nat) = .int .i64 (cM x A : Nat) ∧ Below B0 w wy by rw [hcc]; exact ⟨rfl, bel⟩)
            clear bel hcc hta
            go_wp2_with fail
            go_meet
            exact HB.out
      case rest =>
      clear bel
      obtain ⟨hcb, bel⟩ := hcut
      obtain ⟨cb, hcb2⟩ : ∃ cb, cM x A = cb := ⟨_, rfl⟩
      rw [hcb2] at hcb
      subst hcb
      have HCB := Lib.hid hcb2
      clear hcb2
      generalize wc = w5 at *
      obtain ⟨rh', roff', hoR', -, -, -, -, CX⟩ := msg_at (HR.out _ bel) HX.out
      injection hoR' with hp4
      injection hp4 with hp5 hp6
      subst hp5
      subst hp6
      obtain ⟨xl, hxl⟩ : ∃ xl, x.lo = xl := ⟨_, rfl⟩
      have x2 : w5.cell? ⟨rh, roff + i * 5 + 2, none⟩ = some (.bool xl) := by rw [← hxl]; exact CX.cell 2 rfl
      have HXL := Lib.hid hxl
      have HB := Lib.hid bel
      clear CX hxl bel
      cases xl
      · have HO2 := Lib.hid (show ∀ z ∈ R.take (i + 1), z.lo = true → cM z R ≤ cM z A by
          rw [take_snoc HX.out]
          intro z hz hl
          rw [List.mem_append, List.mem_singleton] at hz
          rcases hz with hz | rfl
          · exact HO.out z hz hl
          · rw [HXL.out] at hl; cases hl)
        go_wp2_with fail
        go_roundw
        case rel => exact ⟨i + 1, by go_num, by omega, HO2.out, HB.out⟩
        case measure => simp [intOf]; omega
      · by_cases e : cb < ca
        · have e' : (cb : Int) < (ca : Int) := by omega
          have HNO := Lib.hid (show ¬ Lse A R from fun h => by have := h x (List.mem_of_getElem? HX.out) HXL.out; rw [HCA.out, HCB.out] at this; omega)
          go_wp2_with fail
          go_ret
          exact ⟨⟨false, rfl, fun q => absurd q Bool.false_ne_true, fun q => absurd q HNO.out⟩, HB.out⟩
        · have e' : ¬ (cb : Int) < (ca : Int) := by omega
          have HO2 := Lib.hid (show ∀ z ∈ R.take (i + 1), z.lo = true → cM z R ≤ cM z A by
            rw [take_snoc HX.out]
            intro z hz hl
            rw [List.mem_append, List.mem_singleton] at hz
            rcases hz with hz | rfl
            · exact HO.out z hz hl
            · rw [HCA.out, HCB.out]; omega)
          go_wp2_with fail
          go_roundw
          case rel => exact ⟨i + 1, by go_num, by omega, HO2.out, HB.out⟩
          case measure => simp [intOf]; omega
    · obtain rfl : i = nR := by omega
      have hta : R.take i = R := by rw [← HNR.out]; exact List.take_length
      rw [hta] at ho
      have HO := Lib.hid ho
      have HB := Lib.hid bel
      clear bel ho hta
      go_wp2_with fail
      go_ret
      exact ⟨⟨true, rfl, fun _ => HO.out, fun _ => rfl⟩, HB.out⟩
end Go.Proofs.Ythjhiogbnacmdaa.mo
