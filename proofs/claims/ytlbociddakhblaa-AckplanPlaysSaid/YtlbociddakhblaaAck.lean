/- Layer 26: when it is said what came. -/
import Derived.Test.YtlbociddakhblaaRows
import Derived.Test.YtlbociddakhblaaKit
import Derived.LoopTactic
import Derived.Outline
import Derived.Deep.CutBlock
import Derived.Deep.DeepCutAuto
import Derived.Deep.RegionWith
import Derived.BigRegion
namespace Go.Proofs.Ytlbociddakhblaa.ack
open Go.ChangeShapes Go.WideShapes Go.ChangeAt Go.RowKit kit

theorem said_any (w : World) : Calls Try.prog 23 #[] w fun e w' => e = .returned (.agg #[.int .i64 0, .int .i64 0]) ∧ Below w.heap.size w w' := by
  go_enter Try.func23, Try.ntmps23
  go_wp2
  exact bodyPost_ret (v := .agg #[.int .i64 0, .int .i64 0]) (by simp [results, Try.results23, go_sem] <;> rfl) rfl ⟨rfl, by repeat (first | exact Below.refl _ _ | (refine Below.alloc ?_ (by simp; try omega) _) | (refine Below.setCell ?_ (by simp) _))⟩

theorem since_up (a b : Int) (w : World) (h0 : 0 ≤ a) (h1 : a ≤ b) (h2 : b ≤ 1000000) : Calls Try.prog 91 #[.int .i64 a, .int .i64 b] w fun e w' => e = .returned (.int .i64 (b - a)) ∧ w = w' := by
  go_enter Try.func91, Try.ntmps91
  go_wp2
  go_ret
  exact ⟨rfl, rfl⟩

/-- of a time that is yet to come: a number below 0 -/
def Neg (w : World) (e : Ending) (w' : World) : Prop := ∃ r : Int, r < 0 ∧ e = .returned (.int .i64 r) ∧ w = w'
theorem since_down (a b : Int) (w : World) (a1 : -9223372036854775808 ≤ a) (a2 : a ≤ 9223372036854775807) (b1 : -9223372036854775808 ≤ b) (b2 : b ≤ 9223372036854775807) (h : b < a) : Calls Try.prog 91 #[.int .i64 a, .int .i64 b] w (Neg w) := by
  have hr : ∀ r : Int, r < 0 → Neg w (.returned (.int .i64 r)) w := fun r hr => ⟨r, hr, rfl, rfl⟩
  rcases (by omega : b - a < -9223372036854775808 ∨ -9223372036854775808 ≤ b - a) with q | q
  · obtain ⟨d, hd, hd0⟩ : ∃ d, IntKind.i64.wrap (b - a) = d ∧ 0 ≤ d := ⟨_, rfl, by rw [IntKind.wrap_i64]; omega⟩
    go_enter Try.func91, Try.ntmps91
    go_wp2
    go_ret
    exact hr _ (by omega)
  · go_enter Try.func91, Try.ntmps91
    go_wp2
    go_ret
    exact hr _ (by omega)

theorem came_now (w0 s0 now : Int) (b : Bool) (w : World) (h : b = true ∨ 1 ≤ w0) : Calls Try.prog 24 #[.agg #[.int .i64 w0, .int .i64 s0], .int .i64 now, .bool b] w fun e w' => e = .returned (.tuple #[.agg #[.int .i64 0, .int .i64 0], .bool true]) ∧ Below w.heap.size w w' := by
  rcases (by cases b; exact .inr ⟨rfl, by simpa using h⟩; exact .inl rfl : b = true ∨ (b = false ∧ 1 ≤ w0)) with rfl | ⟨rfl, h1⟩
  all_goals
    go_enter Try.func24, Try.ntmps24
    go_wp2_with (go_at_call 23; refine (said_any _).mono ?_; rintro e w1 ⟨rfl, hb⟩; have B1 := (blk_new2 _ _ _ _).below hb (by simp); have C1 := fun i => B1.cell i; have F1 := fun i => B1.frozen i; have hz1 : w.heap.size + 1 < w1.heap.size := (by have := hb.size; simp at this; omega))
    exact bodyPost_ret (v := .tuple #[.agg #[.int .i64 0, .int .i64 0], .bool true]) (by simp [results, Try.results24, go_sem, C1, F1, hz1] <;> rfl) rfl ⟨rfl, (((Below.refl w.heap.size w).alloc (Nat.le_refl _) _).alloc (by simp) _ |>.trans (hb.mono (by simp; omega))).setCell (by simp) _ |>.setCell (by simp) _⟩

theorem came_wait (w0 s0 now : Int) (w : World) (h : w0 = 0) : Calls Try.prog 24 #[.agg #[.int .i64 w0, .int .i64 s0], .int .i64 now, .bool false] w fun e w' => e = .returned (.tuple #[.agg #[.int .i64 1, .int .i64 now], .bool false]) ∧ Below w.heap.size w w' := by
  subst h
  go_enter Try.func24, Try.ntmps24
  go_wp2
  exact bodyPost_ret (v := .tuple #[.agg #[.int .i64 1, .int .i64 now], .bool false]) (by simp [results, Try.results24, go_sem] <;> rfl) rfl ⟨rfl, by repeat (first | exact Below.refl _ _ | (refine Below.alloc ?_ (by simp; try omega) _) | (refine Below.setCell ?_ (by simp) _) | (refine Below.drew ?_))⟩

theorem due_no (w0 s0 k : Int) (w : World) (h : w0 ≤ 0) : Calls Try.prog 25 #[.agg #[.int .i64 w0, .int .i64 s0], .int .i64 k] w fun e w' => e = .returned (.bool false) ∧ Below w.heap.size w w' := by
  go_enter Try.func25, Try.ntmps25
  go_wp2
  go_ret
  exact ⟨rfl, (Below.refl _ _).alloc (Nat.le_refl _) _⟩

theorem due_up (w0 s0 k : Int) (w : World) (h : 1 ≤ w0) (h0 : 0 ≤ s0) (h1 : s0 ≤ k) (h2 : k ≤ 1000000) : Calls Try.prog 25 #[.agg #[.int .i64 w0, .int .i64 s0], .int .i64 k] w fun e w' => e = .returned (.bool (decide (2 ≤ k - s0))) ∧ Below w.heap.size w w' := by
  go_enter Try.func25, Try.ntmps25
  go_wp2_with (go_at_call 91; refine (since_up _ _ _ h0 h1 h2).mono ?_; rintro e w1 ⟨rfl, rfl⟩)
  go_ret
  exact ⟨rfl, (Below.refl _ _).alloc (Nat.le_refl _) _⟩

theorem due_down (w0 s0 k : Int) (w : World) (a1 : -9223372036854775808 ≤ s0) (a2 : s0 ≤ 9223372036854775807) (b1 : -9223372036854775808 ≤ k) (b2 : k ≤ 9223372036854775807) (h1 : k < s0) (h : 1 ≤ w0) : Calls Try.prog 25 #[.agg #[.int .i64 w0, .int .i64 s0], .int .i64 k] w fun e w' => e = .returned (.bool false) ∧ Below w.heap.size w w' := by
  go_enter Try.func25, Try.ntmps25
  go_wp2_with (go_at_call 91; refine (since_down _ _ _ a1 a2 b1 b2 h1).mono ?_; rintro e w1 ⟨r, hr, rfl, rfl⟩)
  go_ret
  exact ⟨ret_bool (decide_eq_false (by omega)), (Below.refl _ _).alloc (Nat.le_refl _) _⟩

theorem awake_any (w : World) : Calls Try.prog 26 #[] w fun e w' => e = .returned (.bool true) ∧ Below w.heap.size w w' := by
  have d7 := fun w => due_up 1 5 7 w (by omega) (by omega) (by omega) (by omega)
  have d6 := fun w => due_up 1 5 6 w (by omega) (by omega) (by omega) (by omega)
  rw [show decide ((2 : Int) ≤ 7 - 5) = true from rfl] at d7
  rw [show decide ((2 : Int) ≤ 6 - 5) = false from rfl] at d6
  go_enter Try.func26, Try.ntmps26
  go_wp2_with fail
  refine (said_any _).mono ?_
  rintro e w1 ⟨rfl, hb1⟩
  go_wp2_with fail
  refine (came_wait 0 0 5 _ rfl).mono ?_
  rintro e w2 ⟨rfl, hb2⟩
  have bel2 : Below w.heap.size w w2 := hb1.trans (hb2.mono hb1.size)
  go_wp2_with fail
  have B2 := Blk.new w2 41 #[.int .i64 1, .int .i64 5]
  have bel3 := bel2.alloc bel2.size (.cells #[.int .i64 1, .int .i64 5] 41)
  generalize w2.alloc (.cells #[.int .i64 1, .int .i64 5] 41) = w3 at *
  generalize w2.heap.size = g at *
  refine (came_now 1 5 6 false _ (.inr (by omega))).mono ?_
  rintro e w4 ⟨rfl, hb4⟩
  have B4 := B2.below hb4 B2.lt
  have bel4 := bel3.trans (hb4.mono bel3.size)
  have C4 := fun i => B4.cell i
  have hz4 := B4.lt
  go_wp2_with fail
  have B4' := B4.alloc (.cells #[.int .i64 0, .int .i64 0] 41)
  have bel4' := bel4.alloc bel4.size (.cells #[.int .i64 0, .int .i64 0] 41)
  refine (d7 _).mono ?_
  rintro e w5 ⟨rfl, hb5⟩
  have B5 := B4'.below hb5 B4'.lt
  have bel5 := bel4'.trans (hb5.mono bel4'.size)
  have C5 := fun i => B5.cell i
  clear C4
  go_wp2_with fail
  refine (d6 _).mono ?_
  rintro e w6 ⟨rfl, hb6⟩
  go_wp2_with fail
  go_ret
  exact ⟨rfl, bel5.trans (hb6.mono bel5.size)⟩

set_option maxHeartbeats 1000000 in
theorem none_law (w0 s0 now : Int) (w : World) (a1 : -9223372036854775808 ≤ s0) (a2 : s0 ≤ 9223372036854775807) (b1 : -9223372036854775808 ≤ now) (b2 : now ≤ 9223372036854775807) :
    Calls Try.prog 5 #[.agg #[.int .i64 w0, .int .i64 s0], .int .i64 now] w fun e w' => e = .returned (.bool true) ∧ Below w.heap.size w w' := by
  have hno := fun w => due_no 0 s0 now w (by omega)
  go_enter Try.func5, Try.ntmps5
  go_upto_region 3 with fail
  go_cut [6] (fun s6 wx => s6 = .pointer (some ⟨w.heap.size + 1 + 1, 0, none⟩) ∧ ∃ y : Int, -4611686018427387904 ≤ y ∧ y ≤ 9223372036854775807 ∧ Blk wx (w.heap.size + 1) 41 #[.int .i64 0, .int .i64 s0] ∧ Blk wx (w.heap.size + 1 + 1) 41 #[.int .i64 1, .int .i64 y] ∧ Below w.heap.size w wx)
  case first =>
    have B2 : ∀ o, Blk (((w.alloc (.cells #[.int .i64 w0, .int .i64 s0] 41)).alloc (.cells #[.int .i64 0, .int .i64 s0] 41)).alloc o) (w.heap.size + 1) 41 #[.int .i64 0, .int .i64 s0] := fun o => Blk.alloc (blk_new2 w _ _ _) o
    have B3 : ∀ y, Blk (((w.alloc (.cells #[.int .i64 w0, .int .i64 s0] 41)).alloc (.cells #[.int .i64 0, .int .i64 s0] 41)).alloc (.cells #[.int .i64 1, .int .i64 y] 41)) (w.heap.size + 1 + 1) 41 #[.int .i64 1, .int .i64 y] := fun y => by simpa using blk_new2 (w.alloc (.cells #[.int .i64 w0, .int .i64 s0] 41)) (.cells #[.int .i64 0, .int .i64 s0] 41) 41 #[.int .i64 1, .int .i64 y]
    have B1 : ∀ o, Below w.heap.size w (((w.alloc (.cells #[.int .i64 w0, .int .i64 s0] 41)).alloc (.cells #[.int .i64 0, .int .i64 s0] 41)).alloc o) := fun o => (((Below.refl w.heap.size w).alloc (Nat.le_refl _) _).alloc (by simp) _).alloc (by simp; omega) _
    have HB2 := Lib.hid B2
    have HB3 := Lib.hid B3
    have HB1 := Lib.hid B1
    clear B1 B2 B3
    go_wp2_with fail
    all_goals
      go_meet
      exact ⟨rfl, _, (by omega), (by omega), HB2.out _, HB3.out _, HB1.out _⟩
  case rest =>
  obtain ⟨rfl, y, y1, y2, B2, B3, bel⟩ := hcut
  rcases (by omega : y ≤ now ∨ now < y) with r | r
  · have h1 : decide (y ≤ now) = true := decide_eq_true r
    go_wp2_with (first | (go_at_call 26; refine (awake_any _).mono ?_; rintro e w1 ⟨rfl, hb⟩; have B4 := B2.below hb B2.lt; have B5 := B3.below hb B3.lt; have C4 := fun i => B4.cell i; have C5 := fun i => B5.cell i; have bel1 := bel.trans (hb.mono bel.size)) | (go_at_call 25; refine (hno _).mono ?_; rintro e w5 ⟨rfl, hb5⟩; have B7 := B5.below hb5 B5.lt; have C7 := fun i => B7.cell i; have bel5 := bel1.trans (hb5.mono bel1.size)) | (go_at_call 23; refine (said_any _).mono ?_; rintro e w6 ⟨rfl, hb6⟩; have bel6 := bel5.trans (hb6.mono bel5.size)))
    go_ret
    exact ⟨rfl, bel6⟩
  · have hdn := fun w => due_down 1 y now w (by omega) (by omega) b1 b2 r (by omega)
    have h1 : decide (y ≤ now) = false := decide_eq_false (by omega)
    go_wp2_with (first | (go_at_call 26; refine (awake_any _).mono ?_; rintro e w1 ⟨rfl, hb⟩; have B4 := B2.below hb B2.lt; have B5 := B3.below hb B3.lt; have C4 := fun i => B4.cell i; have C5 := fun i => B5.cell i; have bel1 := bel.trans (hb.mono bel.size)) | (go_at_call 25; (with_reducible refine (hno _).mono ?_); rintro e w5 ⟨rfl, hb5⟩; have B7 := B5.below hb5 B5.lt; have C7 := fun i => B7.cell i; have bel5 := bel1.trans (hb5.mono bel1.size)) | (go_at_call 25; (with_reducible refine (hdn _).mono ?_); rintro e w8 ⟨rfl, hb8⟩; have bel8 := bel5.trans (hb8.mono bel5.size)) | (go_at_call 23; refine (said_any _).mono ?_; rintro e w6 ⟨rfl, hb6⟩; have bel6 := bel8.trans (hb6.mono bel8.size)))
    go_ret
    exact ⟨rfl, bel6⟩

set_option maxRecDepth 100000 in
theorem none_open {H : Type} {enc : TypeId × Value → H} {W : World} {base : Nat} {v0 v1 : Value} {d0 d1 : DataW H} {p0 p1 : List MemPlace}
    (o0 : Value.okWide Try.prog W .any base 41 v0) (o1 : Value.okWide Try.prog W .any base 3 v1) (h0 : DataW.Trod enc Try.prog W 0 (fun _ => true) true 41 v0 d0 p0) (h1 : DataW.Trod enc Try.prog W 0 (fun _ => true) true 3 v1 d1 p1) :
    Calls Try.prog 5 #[v0, v1] W fun e w' => e = .returned (.bool true) ∧ Below W.heap.size W w' := by
  obtain ⟨l, rfl, F0⟩ := open_struct 4 (sh := [.int .i64, .int .i64]) Try.underlying41 (by kernel_rfl) (by kernel_rfl) o0 h0
  obtain ⟨a, l0, rfl, _, F1⟩ := F0.int
  obtain ⟨b, l1, rfl, wb, F2⟩ := F1.int
  obtain rfl := F2.nil
  obtain ⟨n, rfl, _, _, wn⟩ := open_int Try.underlying3 o1 h1
  exact none_law a b n W (bounds_i64 wb).1 (bounds_i64 wb).2 (bounds_i64 wn).1 (bounds_i64 wn).2
end Go.Proofs.Ytlbociddakhblaa.ack
