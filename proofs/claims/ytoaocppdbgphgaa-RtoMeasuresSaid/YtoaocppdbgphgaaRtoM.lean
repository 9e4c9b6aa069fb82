/- Behind any answers what is waited is what the document reckons. -/
import Derived.Test.YtoaocppdbgphgaaRtoB
import Derived.LoopTactic
import Derived.Deep.CutBlock
import Derived.Deep.DeepCutAuto
namespace Go.Proofs.Ytoaocppdbgphgaa.rto
open Go.ChangeShapes Go.WideShapes Go.ChangeAt Go.RowKit kit
set_option maxHeartbeats 4000000 in
theorem measures_law (a : Addr) (len cap : Nat) (v : Nat → Int) (w : World) (hlc : len ≤ cap) (hcm : cap ≤ maxLen) (hab : 0 < len → a.block < w.heap.size)
    (hv : ∀ i, i < len → w.cell? (a.add i) = some (.int .i64 (v i))) (hi64 : ∀ i, i < len → -9223372036854775808 ≤ v i ∧ v i ≤ 9223372036854775807) :
    Calls Try.prog 3 #[.slice (some a) len cap] w fun e w' => e = .returned (.bool true) ∧ Below w.heap.size w w' := by
  unfold maxLen at hcm
  go_enter Try.func3, Try.ntmps3
  go_wp2_with (first | (go_at_call 15; refine (first_any _).mono ?_; rintro e w1 ⟨rfl, hb⟩))
  have B0 := Blk.new w1 24 #[.int .i64 0, .int .i64 0, .int .i64 30, .bool false]
  have bel0 := hb.alloc hb.size (.cells #[.int .i64 0, .int .i64 0, .int .i64 30, .bool false] 24)
  have hg := hb.size
  generalize w1.alloc (.cells #[.int .i64 0, .int .i64 0, .int .i64 30, .bool false] 24) = w2 at *
  generalize w1.heap.size = g at *
  clear hb
  go_loopw [4, 5, 6, 7] (fun sm sb sk si wr => ∃ (i : Nat) (M V c : Int) (kn : Bool), i ≤ len ∧ i ≤ 60 ∧ sm = .int .i64 M ∧ sb = .int .i64 V ∧ sk = .bool kn ∧ si = .int .i64 i ∧ 0 ≤ M ∧ M ≤ 240 ∧ 0 ≤ V ∧ V ≤ 240 ∧ Blk wr g 24 #[.int .i64 M, .int .i64 V, .int .i64 c, .bool kn] ∧ Below w.heap.size w wr) (fun _ _ _ si _ => 60 - (intOf si).toNat)
  case atStart => exact ⟨0, 0, 0, 30, false, by omega, by omega, rfl, rfl, rfl, rfl, by omega, by omega, by omega, by omega, B0, bel0⟩
  case round =>
    obtain ⟨i, M, V, c, kn, hil, hi6, rfl, rfl, rfl, rfl, m1, m2, v1, v2, B, bel⟩ := hrel
    by_cases hlt : i < len
    · by_cases h60 : i < 60
      · have hc : w.cell? (a.add i) = some (.int .i64 (v i)) := hv i hlt
        obtain ⟨x1, x2⟩ := hi64 i hlt
        generalize v i = x at *
        have hcr : wr.cell? (a.add i) = some (.int .i64 x) := (bel.cell (p := a.add i) (by have := hab (by omega); rw [show (a.add i).block = a.block from by unfold Addr.add; split <;> rfl]; exact this)).trans hc
        have hm := fun w => measure_any M V c x kn w m1 m2 v1 v2
        have hgs := B.lt
        have C := fun i => B.cell i
        have F := fun i => B.frozen i
        have b1 := mV_bd kn M x m1 m2
        have b2 := vV_bd kn M V x m1 m2 v1 v2
        have b3 := clamp_bd (mV kn M x + 4 * vV kn M V x)
        go_upto_if 26 with fail
        go_cut [8] (fun t wx => t = .int .i64 (max 0 x) ∧ wx = wr)
        case first =>
          rcases (by omega : x < 0 ∨ 0 ≤ x) with hx | hx
          · go_wp2
            go_meet
            exact ⟨by rw [show max 0 x = 0 by omega], rfl⟩
          · go_wp2
            go_meet
            exact ⟨by rw [show max 0 x = x by omega], rfl⟩
        case rest =>
        obtain ⟨rfl, rfl⟩ := hcut
        go_upto_if 28 with fail
        go_cut [8] (fun t wy => t = .int .i64 (tk x) ∧ wy = wc)
        case first =>
          rcases (by omega : 240 < max 0 x ∨ max 0 x ≤ 240) with hx | hx
          · go_wp2
            go_meet
            exact ⟨by rw [show tk x = 240 by unfold tk; omega], rfl⟩
          · go_wp2
            go_meet
            exact ⟨by rw [show tk x = max 0 x by unfold tk; omega], rfl⟩
        case rest =>
        obtain ⟨rfl, rfl⟩ := hcut
        go_upto_region 11 with fail
        go_cut [] (fun w6 => Blk w6 g 24 #[.int .i64 (mV kn M x), .int .i64 (vV kn M V x), .int .i64 (clampV (mV kn M x + 4 * vV kn M V x)), .bool true] ∧ Below w.heap.size w w6)
        case first =>
          go_region_with (go_at_call 16; refine (hm _).mono ?_; rintro e w5 ⟨rfl, hb5⟩; (first | have B5 := B.below hb5 hgs | have B5 := B.drew.below hb5 hgs); have C5 := fun i => B5.cell i; have F5 := fun i => B5.frozen i; have hz5 : g < w5.heap.size := (Nat.lt_of_lt_of_le hgs hb5.size))
          all_goals
            go_wp2_with fail
            go_meet
            have B6 := (((B5.set_ 0 (.int .i64 (mV kn M x))).set_ 1 (.int .i64 (vV kn M V x))).set_ 2 (.int .i64 (clampV (mV kn M x + 4 * vV kn M V x)))).set_ 3 (.bool true)
            exact ⟨by simpa using B6, ((((bel.drew.trans (hb5.mono bel.size)).setCell hg _).setCell hg _).setCell hg _).setCell hg _⟩
        case rest =>
        obtain ⟨B7, bel7⟩ := hcut
        clear B C F hgs hm hcr hc bel bel0 B0
        have C7 := fun i => B7.cell i
        have hg7 := B7.lt
        go_upto_if 35 with fail
        go_cut [4, 5, 6] (fun s4 s5 s6 wx => s4 = .int .i64 (mV kn M x) ∧ s5 = .int .i64 (vV kn M V x) ∧ s6 = .bool true ∧ wx = wc)
        case first =>
          have t1 := tk_bd x
          cases kn
          · go_wp2
            go_meet
            exact ⟨rfl, rfl, rfl, rfl⟩
          · by_cases hd : M < tk x
            · go_wp2
              go_meet
              exact ⟨rfl, by rw [show vV true M V x = (3 * V + -(M - tk x)) / 4 by unfold vV farV; rw [if_pos rfl, if_pos hd]; congr 2; omega], rfl, rfl⟩
            · go_wp2
              go_meet
              exact ⟨rfl, by rw [show vV true M V x = (3 * V + (M - tk x)) / 4 by unfold vV farV; rw [if_pos rfl, if_neg (by omega)]], rfl, rfl⟩
        case rest =>
        obtain ⟨rfl, rfl, rfl, rfl⟩ := hcut
        go_upto_region 19 with fail
        have hw1 : IntKind.i64.wrap (4 * vV kn M V x) = 4 * vV kn M V x := IntWalk.i64_in _ (by omega)
        have hw2 : IntKind.i64.wrap (mV kn M x + 4 * vV kn M V x) = mV kn M x + 4 * vV kn M V x := IntWalk.i64_in _ (by omega)
        go_region_with (go_at_call 17; refine (clamp_any _ _).mono ?_; rintro e w' ⟨rfl, rfl⟩)
        all_goals
          clear hw1 hw2
          go_wp2_with fail
          go_roundw
          case rel => exact ⟨i + 1, mV kn M x, vV kn M V x, _, true, by omega, by omega, rfl, rfl, rfl, by go_num, b1.1, b1.2, b2.1, b2.2, (by first | exact B7 | exact B7.drew), (by first | exact bel7 | exact bel7.drew)⟩
          case measure => simp [intOf]; omega
      · have : i = 60 := by omega
        subst this
        go_wp2_with (go_at_call 18; refine (awake_any _).mono ?_; rintro e w5 ⟨rfl, hb5⟩)
        go_ret
        exact ⟨rfl, bel.trans (hb5.mono bel.size)⟩
    · have : i = len := by omega
      subst this
      go_wp2_with (go_at_call 18; refine (awake_any _).mono ?_; rintro e w5 ⟨rfl, hb5⟩)
      go_ret
      exact ⟨rfl, bel.trans (hb5.mono bel.size)⟩

theorem measures_nil (w : World) : Calls Try.prog 3 #[.slice none 0 0] w fun e w' => e = .returned (.bool true) ∧ Below w.heap.size w w' := by
  go_enter Try.func3, Try.ntmps3
  go_wp2_with (first | (go_at_call 15; refine (first_any _).mono ?_; rintro e w1 ⟨rfl, hb⟩))
  have bel0 := hb.alloc hb.size (.cells #[.int .i64 0, .int .i64 0, .int .i64 30, .bool false] 24)
  refine wp_loop_rounds 1 ?_
  rw [rounds_succ]
  go_wp2_with (go_at_call 18; refine (awake_any _).mono ?_; rintro e w5 ⟨rfl, hb5⟩)
  go_ret
  exact ⟨rfl, bel0.trans (hb5.mono bel0.size)⟩

set_option maxRecDepth 100000 in
theorem measures_open {H : Type} {enc : TypeId × Value → H} {W : World} {base : Nat} {v0 : Value} {d0 : DataW H} {p0 : List MemPlace}
    (o0 : Value.okWide Try.prog W .any base 22 v0) (h0 : DataW.Trod enc Try.prog W 0 (fun _ => true) true 22 v0 d0 p0) :
    Calls Try.prog 3 #[v0] W fun e w' => e = .returned (.bool true) ∧ Below W.heap.size W w' := by
  rcases open_row 2 (sh := [.int .i64]) Try.underlying22 (by kernel_rfl) (by kernel_rfl) (by decide) o0 h0 with rfl | ⟨a, len, cap, C, rfl, hlc, hcm, hab, hC⟩
  · exact measures_nil W
  · have hx : ∀ i, ∃ x : Int, i < len → W.cell? (a.add i) = some (.int .i64 x) ∧ (-9223372036854775808 ≤ x ∧ x ≤ 9223372036854775807) := by
      intro i
      by_cases hi : i < len
      · obtain ⟨hF, hc⟩ := hC i hi
        obtain ⟨x, t, e, hw, hF'⟩ := hF.int
        refine ⟨x, fun _ => ⟨?_, bounds_i64 hw⟩⟩
        have := hc 0 (.int .i64 x) (by rw [e]; rfl)
        simpa using this
      · exact ⟨0, fun h => absurd h hi⟩
    have hs := fun i => Classical.choose_spec (hx i)
    exact measures_law a len cap (fun i => Classical.choose (hx i)) W hlc hcm hab (fun i hi => ((hs i) hi).1) (fun i hi => ((hs i) hi).2)
end Go.Proofs.Ytoaocppdbgphgaa.rto
