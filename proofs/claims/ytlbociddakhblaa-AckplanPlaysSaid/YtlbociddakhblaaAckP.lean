/- Layer 26: it is said at once what came, when that is pressing, or each second packet; else it is due behind a time. -/
import Derived.Test.YtlbociddakhblaaAck
namespace Go.Proofs.Ytlbociddakhblaa.ack
open Go.ChangeShapes Go.WideShapes Go.ChangeAt Go.RowKit kit

/-- Is it said, what waits then, since when. -/
def sdB (vi : Bool) (wt : Int) : Bool := vi || decide (wt = 1)
def wtI (vi : Bool) (wt : Int) : Int := if sdB vi wt = true then 0 else 1
def snI (wt now sc : Int) : Int := if wt = 0 then now else sc
def psI (vi : Bool) (wt now : Int) : Int := if sdB vi wt = true then 0 else now
theorem came_all (wt ps now : Int) (vi : Bool) (w : World) (hwt : wt = 0 ∨ wt = 1) : Calls Try.prog 24 #[.agg #[.int .i64 wt, .int .i64 ps], .int .i64 now, .bool vi] w fun e w' => e = .returned (.tuple #[.agg #[.int .i64 (wtI vi wt), .int .i64 (psI vi wt now)], .bool (sdB vi wt)]) ∧ Below w.heap.size w w' := by
  rcases hwt with rfl | rfl
  · cases vi
    · exact came_wait 0 ps now w rfl
    · exact came_now 0 ps now true w (.inl rfl)
  · cases vi
    · exact came_now 1 ps now false w (.inr (by omega))
    · exact came_now 1 ps now true w (.inl rfl)

set_option maxHeartbeats 2000000 in
theorem plays_law (a : Addr) (len cap : Nat) (v : Nat → Bool) (step : Int) (w : World) (hlc : len ≤ cap) (hcm : cap ≤ maxLen) (hab : 0 < len → a.block < w.heap.size)
    (hv : ∀ i, i < len → w.cell? (a.add i) = some (.bool (v i))) :
    Calls Try.prog 4 #[.slice (some a) len cap, .int .i64 step] w fun e w' => e = .returned (.bool true) ∧ Below w.heap.size w w' := by
  unfold maxLen at hcm
  obtain ⟨st, hst, s0, s3⟩ : ∃ st : Int, bits .and .i64 step 3 = st ∧ 0 ≤ st ∧ st ≤ 3 := ⟨step % 4, i64_mask step 2 (by omega), by omega, by omega⟩
  go_enter Try.func4, Try.ntmps4
  go_wp2_with (first | (go_at_call 23; refine (said_any _).mono ?_; rintro e w1 ⟨rfl, hb⟩))
  have B0 := Blk.new w1 41 #[.int .i64 0, .int .i64 0]
  have bel0 := hb.alloc hb.size (.cells #[.int .i64 0, .int .i64 0] 41)
  have hg := hb.size
  generalize w1.alloc (.cells #[.int .i64 0, .int .i64 0] 41) = w2 at *
  generalize w1.heap.size = g at *
  clear hb
  go_loopw [6, 7, 8] (fun sw ss si wr => ∃ (i : Nat) (wt sc ps : Int), i ≤ len ∧ i ≤ 60 ∧ (wt = 0 ∨ wt = 1) ∧ (wt = 1 → ps = sc) ∧ 0 ≤ sc ∧ sc ≤ 1000 ∧ sw = .int .i64 wt ∧ ss = .int .i64 sc ∧ si = .int .i64 i ∧ Blk wr g 41 #[.int .i64 wt, .int .i64 ps] ∧ Below w.heap.size w wr) (fun _ _ si _ => 60 - (intOf si).toNat)
  case atStart => exact ⟨0, 0, 0, 0, by omega, by omega, .inl rfl, fun h => rfl, by omega, by omega, rfl, rfl, rfl, B0, bel0⟩
  case round =>
    obtain ⟨i, wt, sc, ps, hil, hi6, hwt, hps, sc0, sc1, rfl, rfl, rfl, B, bel⟩ := hrel
    clear B0 bel0
    by_cases hlt : i < len
    · by_cases h60 : i < 60
      · have hc : wr.cell? (a.add i) = some (.bool (v i)) := (bel.cell (p := a.add i) (by have := hab (by omega); rw [show (a.add i).block = a.block from by unfold Addr.add; split <;> rfl]; exact this)).trans (hv i hlt)
        have hnb : a.block ≠ g := by have := hab (by omega); omega
        have hab' := hab (by omega)
        clear hv hab
        generalize v i = vi at *
        obtain ⟨now, hnow, n0, n1⟩ : ∃ now : Int, (i : Int) * st = now ∧ 0 ≤ now ∧ now ≤ 177 := by
          refine ⟨_, rfl, Int.mul_nonneg (by omega) s0, ?_⟩
          have h1 : (i : Int) * st ≤ 59 * st := Int.mul_le_mul_of_nonneg_right (by omega) s0
          omega
        have hgs := B.lt
        go_upto_if 29 with fail
        go_cut [7] (fun s7 wx => s7 = .int .i64 (snI wt now sc) ∧ wx = wr)
        case first =>
          rcases hwt with rfl | rfl
          · go_wp2_with fail
            go_meet
            exact ⟨rfl, rfl⟩
          · go_wp2_with fail
            go_meet
            exact ⟨rfl, rfl⟩
        case rest =>
        obtain ⟨rfl, rfl⟩ := hcut
        have hcm := fun w => came_all wt ps now vi w hwt
        go_upto_region 9 with fail
        go_cut [10, 11] (fun s10 s11 wx => ∃ h : Nat, s10 = .pointer (some ⟨h, 0, none⟩) ∧ s11 = .bool (sdB vi wt) ∧ Blk wx g 41 #[.int .i64 wt, .int .i64 ps] ∧ Blk wx h 41 #[.int .i64 (wtI vi wt), .int .i64 (psI vi wt now)] ∧ Below w.heap.size w wx)
        case first =>
          have C := fun i => B.cell i
          have hab2 : (a.add i).block = a.block := by unfold Addr.add; split <;> rfl
          have hca := (World.cell?_alloc_lt wc (.cells #[.int .i64 0, .int .i64 0] 41) (a.add i) (by rw [hab2]; have := bel.size; omega)).trans hc
          have Ba := (B.alloc (.cells #[.int .i64 0, .int .i64 0] 41)).drew
          have Na := (Blk.new wc 41 #[.int .i64 0, .int .i64 0]).drew
          go_region_with (go_at_call 24; refine (hcm _).mono ?_; rintro e w5 ⟨rfl, hb5⟩; (first | (have N5 := Na.below hb5 Na.lt; have B5 := Ba.below hb5 Ba.lt; have CN := fun i => N5.cell i; have FN := fun i => N5.frozen i; have hz5 := N5.lt) | (have B5 := B.drew.below hb5 hgs)))
          all_goals
            go_wp2_with fail
            go_meet
            first
              | exact ⟨_, rfl, rfl, B5.alloc _, Blk.new _ _ _, (bel.drew.trans (hb5.mono bel.size)).alloc (by have := hb5.size; have := bel.size; simp at *; omega) _⟩
              | exact ⟨_, rfl, rfl, (B5.far (by simp; omega) _).far (by simp; omega) _, by simpa using (N5.set_ 0 (.int .i64 (wtI vi wt))).set_ 1 (.int .i64 (psI vi wt now)), (((bel.alloc bel.size _).drew.trans (hb5.mono (by simp; have := bel.size; omega))).setCell bel.size _).setCell bel.size _⟩
        case rest =>
        obtain ⟨h, rfl, rfl, B5, N5, bel5⟩ := hcut
        have C5 := fun i => B5.cell i
        have F5 := fun i => B5.frozen i
        have D5 := fun i => N5.cell i
        have B6 : Blk ((wc.setCell ⟨g, 0, none⟩ (.int .i64 (wtI vi wt))).setCell ⟨g, 1, none⟩ (.int .i64 (psI vi wt now))) g 41 #[.int .i64 (wtI vi wt), .int .i64 (psI vi wt now)] := by simpa using (B5.set_ 0 (.int .i64 (wtI vi wt))).set_ 1 (.int .i64 (psI vi wt now))
        have bel6 : Below w.heap.size w ((wc.setCell ⟨g, 0, none⟩ (.int .i64 (wtI vi wt))).setCell ⟨g, 1, none⟩ (.int .i64 (psI vi wt now))) := (bel5.setCell hg _).setCell hg _
        go_upto_region 11 with fail
        generalize (wc.setCell ⟨g, 0, none⟩ (.int .i64 (wtI vi wt))).setCell ⟨g, 1, none⟩ (.int .i64 (psI vi wt now)) = w6 at *
        have hc6 : w6.cell? (a.add i) = some (.bool vi) := (bel6.cell (p := a.add i) (by rw [show (a.add i).block = a.block from by unfold Addr.add; split <;> rfl]; omega)).trans ((bel.cell (p := a.add i) (by rw [show (a.add i).block = a.block from by unfold Addr.add; split <;> rfl]; omega)).symm.trans hc)
        clear C5 F5 D5 B5 N5 bel5 hc hcm
        have key : (wtI vi wt = 0 ∧ sdB vi wt = true ∧ (vi = true ∨ wt = 1)) ∨ (wtI vi wt = 1 ∧ sdB vi wt = false ∧ psI vi wt now = now ∧ vi = false ∧ wt = 0) := by
          rcases hwt with rfl | rfl <;> cases vi <;> simp [wtI, psI, sdB]
        generalize wtI vi wt = wt2 at *
        generalize psI vi wt now = ps2 at *
        generalize sdB vi wt = sd at *
        rcases key with ⟨rfl, rfl, hor⟩ | ⟨rfl, rfl, rfl, rfl, rfl⟩
        · have hsn : 0 ≤ snI wt now sc ∧ snI wt now sc ≤ 1000 := by unfold snI; split <;> omega
          generalize snI wt now sc = sn at *
          rcases (by rcases hor with rfl | rfl; exact .inl rfl; cases vi; exact .inr ⟨rfl, rfl⟩; exact .inl rfl : vi = true ∨ (vi = false ∧ wt = 1)) with rfl | ⟨rfl, rfl⟩
          all_goals
            clear hor hps hnow
            have hno := fun k w => due_no 0 ps2 k w (by omega)
            go_wp2_with fail
            go_loopw [12] (fun sk wx => ∃ k : Int, now ≤ k ∧ k ≤ now + 5 ∧ sk = .int .i64 k ∧ Blk wx g 41 #[.int .i64 0, .int .i64 ps2] ∧ Below w.heap.size w wx) (fun sk _ => (now + 5 - intOf sk).toNat)
            case atStart => exact ⟨now, by omega, by omega, rfl, B6, bel6⟩
            case round =>
              obtain ⟨k, k0, k1, rfl, B7, bel7⟩ := hrel
              have C7 := fun i => B7.cell i
              clear hc6
              by_cases hk : k < now + 5
              · go_wp2_with (go_at_call 25; refine (hno _ _).mono ?_; rintro e w8 ⟨rfl, hb8⟩; have B8 := B7.below hb8 B7.lt; have bel8 := bel7.trans (hb8.mono bel7.size))
                go_roundw
                case rel => exact ⟨k + 1, by omega, by omega, by go_num, B8, bel8⟩
                case measure => simp [intOf]; omega
              · go_wp2_with fail
                go_roundw
                case rel => exact ⟨i + 1, 0, _, _, by omega, by omega, .inl rfl, fun h => absurd h (by omega), hsn.1, hsn.2, rfl, rfl, by go_num, B7, bel7⟩
                case measure => simp [intOf]; omega
        · have hsn : snI 0 ps2 sc = ps2 := rfl
          rw [hsn]
          clear hps hnow hsn
          go_wp2_with fail
          go_loopw [12] (fun sk wx => ∃ k : Int, ps2 ≤ k ∧ k ≤ ps2 + 5 ∧ sk = .int .i64 k ∧ Blk wx g 41 #[.int .i64 1, .int .i64 ps2] ∧ Below w.heap.size w wx) (fun sk _ => (ps2 + 5 - intOf sk).toNat)
          case atStart => exact ⟨ps2, by omega, by omega, rfl, B6, bel6⟩
          case round =>
            obtain ⟨k, k0, k1, rfl, B7, bel7⟩ := hrel
            have C7 := fun i => B7.cell i
            clear hc6
            by_cases hk : k < ps2 + 5
            · have hup := fun w => due_up 1 ps2 k w (by omega) (by omega) (by omega) (by omega)
              rcases (by omega : 2 ≤ k - ps2 ∨ k - ps2 < 2) with q | q
              · rw [decide_eq_true q] at hup
                go_wp2_with (go_at_call 25; refine (hup _).mono ?_; rintro e w8 ⟨rfl, hb8⟩; have B8 := B7.below hb8 B7.lt; have bel8 := bel7.trans (hb8.mono bel7.size))
                go_roundw
                case rel => exact ⟨k + 1, by omega, by omega, by go_num, B8, bel8⟩
                case measure => simp [intOf]; omega
              · rw [decide_eq_false (by omega)] at hup
                go_wp2_with (go_at_call 25; refine (hup _).mono ?_; rintro e w8 ⟨rfl, hb8⟩; have B8 := B7.below hb8 B7.lt; have bel8 := bel7.trans (hb8.mono bel7.size))
                go_roundw
                case rel => exact ⟨k + 1, by omega, by omega, by go_num, B8, bel8⟩
                case measure => simp [intOf]; omega
            · go_wp2_with fail
              go_roundw
              case rel => exact ⟨i + 1, 1, ps2, _, by omega, by omega, .inr rfl, fun h => rfl, by omega, by omega, rfl, rfl, by go_num, B7, bel7⟩
              case measure => simp [intOf]; omega
      · have : i = 60 := by omega
        subst this
        clear hps
        go_wp2_with (go_at_call 26; refine (awake_any _).mono ?_; rintro e w5 ⟨rfl, hb5⟩)
        go_ret
        exact ⟨rfl, bel.trans (hb5.mono bel.size)⟩
    · have : i = len := by omega
      subst this
      clear hps
      go_wp2_with (go_at_call 26; refine (awake_any _).mono ?_; rintro e w5 ⟨rfl, hb5⟩)
      go_ret
      exact ⟨rfl, bel.trans (hb5.mono bel.size)⟩

theorem plays_nil (step : Int) (w : World) :
    Calls Try.prog 4 #[.slice none 0 0, .int .i64 step] w fun e w' => e = .returned (.bool true) ∧ Below w.heap.size w w' := by
  go_enter Try.func4, Try.ntmps4
  go_wp2_with (first | (go_at_call 23; refine (said_any _).mono ?_; rintro e w1 ⟨rfl, hb⟩))
  have bel0 := hb.alloc hb.size (.cells #[.int .i64 0, .int .i64 0] 41)
  refine wp_loop_rounds 1 ?_
  rw [rounds_succ]
  go_wp2_with (go_at_call 26; refine (awake_any _).mono ?_; rintro e w5 ⟨rfl, hb5⟩)
  go_ret
  exact ⟨rfl, bel0.trans (hb5.mono bel0.size)⟩

set_option maxRecDepth 100000 in
theorem plays_open {H : Type} {enc : TypeId × Value → H} {W : World} {base : Nat} {v0 v1 : Value} {d0 d1 : DataW H} {p0 p1 : List MemPlace}
    (o0 : Value.okWide Try.prog W .any base 39 v0) (o1 : Value.okWide Try.prog W .any base 3 v1) (h0 : DataW.Trod enc Try.prog W 0 (fun _ => true) true 39 v0 d0 p0) (h1 : DataW.Trod enc Try.prog W 0 (fun _ => true) true 3 v1 d1 p1) :
    Calls Try.prog 4 #[v0, v1] W fun e w' => e = .returned (.bool true) ∧ Below W.heap.size W w' := by
  obtain ⟨n, rfl, _, _, wn⟩ := open_int Try.underlying3 o1 h1
  rcases open_row 2 (sh := [.bool]) Try.underlying39 (by kernel_rfl) (by kernel_rfl) (by decide) o0 h0 with rfl | ⟨a, len, cap, C, rfl, hlc, hcm, hab, hC⟩
  · exact plays_nil n W
  · have hx : ∀ i, ∃ x : Bool, i < len → W.cell? (a.add i) = some (.bool x) := by
      intro i
      by_cases hi : i < len
      · obtain ⟨hF, hc⟩ := hC i hi
        obtain ⟨x, t, e, hF'⟩ := hF.bool
        refine ⟨x, fun _ => ?_⟩
        have := hc 0 (.bool x) (by rw [e]; rfl)
        simpa using this
      · exact ⟨false, fun h => absurd h hi⟩
    have hs := fun i => Classical.choose_spec (hx i)
    exact plays_law a len cap (fun i => Classical.choose (hx i)) n W hlc hcm hab (fun i hi => hs i hi)
end Go.Proofs.Ytlbociddakhblaa.ack
