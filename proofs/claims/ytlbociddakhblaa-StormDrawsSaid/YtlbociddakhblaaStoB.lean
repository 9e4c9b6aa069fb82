/- Layer 42: numbers are drawn as the document says; the statement walked. -/
import Derived.Test.YtlbociddakhblaaStoA
import Derived.Test.YtlbociddakhblaaKitB
namespace Go.Proofs.Ytlbociddakhblaa.storm
open Go.Sort (grow)
open Go.ChangeShapes Go.WideShapes Go.ChangeAt Go.RowKit kit
set_option maxRecDepth 100000

abbrev tick : Array Value := #[.int .i64 13, .int .i64 0, .int .i64 1, .int .i64 0, .int .i64 0, .int .i64 0, .int .i64 0, .int .i64 0, .string ⟨#[]⟩]
theorem szT : (Try.prog.info? 129).map (·.size) = some tick.size := by kernel_rfl
theorem tick_eq (w : World) : (Op.equalIn 10000 129 (.agg tick) (.agg tick)).run Try.prog w = .ok true w := by kernel_rfl
theorem tick_eql (w : World) : (binOp .eql 129 (.agg tick) (.agg tick)).run Try.prog w = .ok (.bool true) w := by kernel_rfl
theorem next_none (g : Nat) (x l : Int) (m : Value) (w : World) (B : Blk w g 127 #[.int .u64 x, .int .i64 l, .int .i64 0, .int .i64 0, .int .i64 0, m]) : Calls Try.prog 93 #[.pointer (some ⟨g, 0, none⟩), .slice none 0 0] w fun e w' => e = .returned (.agg tick) ∧ Below w.heap.size w w' := by
  go_enter Try.func93, Try.ntmps93
  go_wp2_with fail
  exact bodyPost_ret (v := .agg tick) (results_cell_at rfl _ _ w.heap.size 0 tick _ rfl (Cel.of_blk (Blk.new _ _ _)) Try.underlying129 rfl szT) rfl ⟨rfl, (Below.refl _ _).alloc (Nat.le_refl _) _⟩
theorem first_draw : wrap64 ((IntKind.u64.wrap (IntKind.u64.wrap (3 * 6364136223846793005) + 1442695040888963407) / 8589934592).tmod 10) = 9 := by decide +kernel
theorem awake42_any (w : World) : Calls Try.prog 29 #[] w fun e w' => e = .returned (.bool true) ∧ Below w.heap.size w w' := by
  have q1 := fun w => tick_eq w
  have q2 := fun w => tick_eql w
  go_enter Try.func29, Try.ntmps29
  go_wp2_with fail
  refine (new_any 3 50 _ (by omega) (by omega)).mono ?_
  rintro e w1 ⟨g, m, rfl, hg, B, bel⟩
  go_wp2_with fail
  refine (next_none g 3 50 _ _ B).mono ?_
  rintro e w2 ⟨rfl, hb2⟩
  have B2 := B.below hb2 B.lt
  have bel2 := bel.trans (hb2.mono bel.size)
  go_wp2_with fail
  refine (draw_some g 10 3 50 _ (by omega) (by omega) _ B2).mono ?_
  rintro e w3 ⟨rfl, hw3⟩
  have bel3 : Below w.heap.size w w3 := by rw [hw3]; exact bel2.setCell (p := ⟨g, 0, none⟩) hg _
  clear hw3
  rw [first_draw]
  go_wp2_with fail
  go_ret
  exact ⟨rfl, bel3⟩
set_option maxHeartbeats 4000000 in
theorem draws_law (x : Int) (a : Addr) (n cap : Nat) (hc : n ≤ cap) (hcm : cap ≤ maxLen) (L : Nat → Int) (hb : ∀ i, i < n → L i ≤ 9223372036854775807) (w : World) (hl : 0 < n → a.block < w.heap.size) (hL : ∀ i, i < n → w.cell? (a.add i) = some (.int .i64 (L i))) :
    Calls Try.prog 6 #[.int .u64 x, .slice (some a) n cap] w fun e w' => e = .returned (.bool true) ∧ Below w.heap.size w w' := by
  unfold maxLen at hcm
  have HB := Lib.hid hb
  have HL := Lib.hid hL
  clear hb hL
  go_enter Try.func6, Try.ntmps6
  go_wp2_with fail
  refine (new_any x 0 _ (by omega) (by omega)).mono ?_
  rintro e w1 ⟨g, m, rfl, hg, B, bel⟩
  go_wp2_with fail
  go_loopw [6, 7] (fun s6 s7 wr => ∃ (k : Nat) (y : Int), k ≤ n ∧ k ≤ 50 ∧ s6 = .int .u64 y ∧ s7 = .int .i64 k ∧ Blk wr g 127 #[.int .u64 y, .int .i64 0, .int .i64 0, .int .i64 0, .int .i64 0, .map (some m)] ∧ Below w.heap.size w wr) (fun _ s7 _ => 50 - (intOf s7).toNat)
  case atStart => exact ⟨0, x, by omega, by omega, rfl, rfl, B, bel⟩
  case round =>
    clear B bel
    obtain ⟨k, y, hk, hk2, rfl, rfl, B, bel⟩ := hrel
    by_cases hlt : k < n ∧ k < 50
    · obtain ⟨h1, h2⟩ := hlt
      have ck : wr.cell? (a.add k) = some (.int .i64 (L k)) := (bel.cell (p := a.add k) (show (a.add k).block < w.heap.size by have := hl (by omega); unfold Addr.add; split <;> exact this)).trans (HL.out k h1)
      have hbk := HB.out k h1
      generalize L k = z at *
      by_cases hz : 1 ≤ z
      · have hz0 : decide (0 < z) = true := decide_eq_true (by omega)
        have hu := u64_pos z hz hbk
        have hq : (z == 0) = false := beq_eq_false_iff_ne.2 (by omega)
        have hq1 : ¬ z = 0 := by omega
        go_wp2_with fail
        refine (draw_some g z y 0 _ hz hbk _ B).mono ?_
        rintro e w3 ⟨rfl, hw3⟩
        have B3 : Blk w3 g 127 #[.int .u64 (IntKind.u64.wrap (IntKind.u64.wrap (y * 6364136223846793005) + 1442695040888963407)), .int .i64 0, .int .i64 0, .int .i64 0, .int .i64 0, .map (some m)] := by rw [hw3]; exact B.set_ 0 _
        have bel3 : Below w.heap.size w w3 := by rw [hw3]; exact bel.setCell (p := ⟨g, 0, none⟩) hg _
        clear hw3 B bel
        go_wp2_with fail
        go_roundw
        case rel => exact ⟨k + 1, _, by omega, by omega, rfl, by go_num, B3, bel3⟩
        case measure => simp [intOf]; omega
      · have hz0 : decide (0 < z) = false := decide_eq_false (by omega)
        go_wp2_with fail
        refine (draw_none g z (by omega) _).mono ?_
        rintro e w3 ⟨rfl, rfl⟩
        go_wp2_with fail
        go_roundw
        case rel => exact ⟨k + 1, y, by omega, by omega, rfl, by go_num, B, bel⟩
        case measure => simp [intOf]; omega
    · rcases (by omega : ¬ k < n ∨ (k < n ∧ ¬ k < 50)) with h1 | ⟨h1, h2⟩
      all_goals
        go_wp2_with fail
        refine (awake42_any _).mono ?_
        rintro e w3 ⟨rfl, hb3⟩
        go_wp2_with fail
        go_ret
        exact ⟨rfl, bel.trans (hb3.mono bel.size)⟩
theorem draws_nil (x : Int) (w : World) :
    Calls Try.prog 6 #[.int .u64 x, .slice none 0 0] w fun e w' => e = .returned (.bool true) ∧ Below w.heap.size w w' := by
  go_enter Try.func6, Try.ntmps6
  go_wp2_with fail
  refine (new_any x 0 _ (by omega) (by omega)).mono ?_
  rintro e w1 ⟨g, m, rfl, hg, B, bel⟩
  go_wp2_with fail
  refine wp_loop_rounds 1 ?_
  rw [rounds_succ]
  go_wp2_with fail
  refine (awake42_any _).mono ?_
  rintro e w3 ⟨rfl, hb3⟩
  go_wp2_with fail
  go_ret
  exact ⟨rfl, bel.trans (hb3.mono bel.size)⟩
theorem draws_open {H : Type} {enc : TypeId × Value → H} {W : World} {base : Nat} {v0 v1 : Value} {d0 d1 : DataW H} {p0 p1 : List MemPlace}
    (o0 : Value.okWide Try.prog W .any base 47 v0) (o1 : Value.okWide Try.prog W .any base 48 v1) (h0 : DataW.Trod enc Try.prog W 0 (fun _ => true) true 47 v0 d0 p0) (h1 : DataW.Trod enc Try.prog W 0 (fun _ => true) true 48 v1 d1 p1) :
    Calls Try.prog 6 #[v0, v1] W fun e w' => e = .returned (.bool true) ∧ Below W.heap.size W w' := by
  obtain ⟨x, rfl, _, _, _⟩ := open_int Try.underlying47 o0 h0
  rcases open_row 3 (sh := [.int .i64]) Try.underlying48 (by kernel_rfl) (by kernel_rfl) (by decide) o1 h1 with rfl | ⟨a, len, cap, C, rfl, hlc, hcm, hab, hC⟩
  · exact draws_nil x W
  · have hx : ∀ i, ∃ x : Int, i < len → W.cell? (a.add i) = some (.int .i64 x) ∧ x ≤ 9223372036854775807 := by
      intro i
      by_cases hi : i < len
      · obtain ⟨hF, hc⟩ := hC i hi
        obtain ⟨y, t, e, hw, hF'⟩ := hF.int
        refine ⟨y, fun _ => ⟨?_, (bounds_i64 hw).2⟩⟩
        have := hc 0 (.int .i64 y) (by rw [e]; rfl)
        simpa using this
      · exact ⟨0, fun h => absurd h hi⟩
    have hs := fun i => Classical.choose_spec (hx i)
    exact draws_law x a len cap hlc hcm (fun i => Classical.choose (hx i)) (fun i hi => ((hs i) hi).2) W hab (fun i hi => ((hs i) hi).1)
end Go.Proofs.Ytlbociddakhblaa.storm
