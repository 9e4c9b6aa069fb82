/- Layer 13's functions by contracts. -/
import Derived.Test.YtoaocppdbgphgaaRows
import Derived.Test.YtoaocppdbgphgaaKit
import Derived.Outline
import Derived.Deep.QuietTactic
import Derived.BigQuiet
import Derived.Deep.RegionWith
import Derived.BigRegion
namespace Go.Proofs.Ytoaocppdbgphgaa.rto
open Go.ChangeShapes Go.WideShapes Go.ChangeAt Go.RowKit kit

def clampV (n : Int) : Int := if n < 10 then 10 else if 240 < n then 240 else n
theorem clamp_bd (n : Int) : 10 ≤ clampV n ∧ clampV n ≤ 240 := by unfold clampV; split <;> (try split) <;> omega

theorem clamp_any (n : Int) (w : World) : Calls Try.prog 17 #[.int .i64 n] w fun e w' => e = .returned (.int .i64 (clampV n)) ∧ w = w' := by
  go_enter Try.func17, Try.ntmps17
  go_wp2
  all_goals (go_ret; refine ⟨ret_int ?_, rfl⟩; unfold clampV; repeat' split) <;> omega

theorem waits_any (n : Int) (w : World) : Calls Try.prog 55 #[.int .i64 n] w fun e w' => e = .returned (.int .i64 (clampV n)) ∧ w = w' := by
  go_enter Try.func55, Try.ntmps55
  go_wp2
  all_goals (go_ret; refine ⟨ret_int ?_, rfl⟩; unfold clampV; repeat' split) <;> omega

theorem first_any (w : World) : Calls Try.prog 15 #[] w fun e w' => e = .returned (.agg #[.int .i64 0, .int .i64 0, .int .i64 30, .bool false]) ∧ Below w.heap.size w w' := by
  go_enter Try.func15, Try.ntmps15
  go_wp2
  exact bodyPost_ret (v := .agg #[.int .i64 0, .int .i64 0, .int .i64 30, .bool false]) (by simp [results, Try.results15, go_sem]) rfl ⟨rfl, by repeat (first | exact Below.refl _ _ | (refine Below.alloc ?_ (by simp; try omega) _))⟩

theorem longer_any (a b c : Int) (k : Bool) (w : World) : Calls Try.prog 19 #[.agg #[.int .i64 a, .int .i64 b, .int .i64 c, .bool k]] w fun e w' => e = .returned (.agg #[.int .i64 a, .int .i64 b, .int .i64 (clampV (2 * clampV c)), .bool k]) ∧ Below w.heap.size w w' := by
  have h := clamp_bd c
  go_enter Try.func19, Try.ntmps19
  go_wp2_with (go_at_call 55; refine (waits_any _ _).mono ?_; rintro e w' ⟨rfl, rfl⟩)
  exact bodyPost_ret (v := .agg #[.int .i64 a, .int .i64 b, .int .i64 (clampV (2 * clampV c)), .bool k]) (by simp [results, Try.results19, go_sem]) rfl ⟨rfl, by repeat (first | exact Below.refl _ _ | (refine Below.alloc ?_ (by simp; try omega) _) | (refine Below.setCell ?_ (by simp) _))⟩
def farV (a b : Int) : Int := if a < b then b - a else a - b
theorem far_any (a b : Int) (w : World) (h1 : 0 ≤ a) (h2 : a ≤ 240) (h3 : 0 ≤ b) (h4 : b ≤ 240) : Calls Try.prog 54 #[.int .i64 a, .int .i64 b] w fun e w' => e = .returned (.int .i64 (farV a b)) ∧ w = w' := by
  go_enter Try.func54, Try.ntmps54
  go_wp2
  all_goals (go_ret; refine ⟨ret_int ?_, rfl⟩; unfold farV; repeat' split) <;> omega
def tk (x : Int) : Int := max 0 (min x 240)
theorem tk_bd (x : Int) : 0 ≤ tk x ∧ tk x ≤ 240 := by unfold tk; omega
def withV (n a b : Int) : Int := max a (min n b)
theorem within_any (n a b : Int) (w : World) : Calls Try.prog 53 #[.int .i64 n, .int .i64 a, .int .i64 b] w fun e w' => e = .returned (.int .i64 (withV n a b)) ∧ w = w' := by
  go_enter Try.func53, Try.ntmps53
  go_wp2
  all_goals (go_ret; refine ⟨ret_int ?_, rfl⟩; unfold withV; omega)
def mV (kn : Bool) (M x : Int) : Int := if kn then (7 * M + tk x) / 8 else tk x
def vV (kn : Bool) (M V x : Int) : Int := if kn then (3 * V + farV M (tk x)) / 4 else tk x / 2
theorem mV_bd (kn : Bool) (M x : Int) (h1 : 0 ≤ M) (h2 : M ≤ 240) : 0 ≤ mV kn M x ∧ mV kn M x ≤ 240 := by
  have := tk_bd x; unfold mV; split <;> omega
theorem vV_bd (kn : Bool) (M V x : Int) (h1 : 0 ≤ M) (h2 : M ≤ 240) (h3 : 0 ≤ V) (h4 : V ≤ 240) : 0 ≤ vV kn M V x ∧ vV kn M V x ≤ 240 := by
  have := tk_bd x; unfold vV farV; split
  · split <;> omega
  · omega

set_option maxHeartbeats 1600000 in
theorem measure_any (M V c x : Int) (kn : Bool) (w : World) (h1 : 0 ≤ M) (h2 : M ≤ 240) (h3 : 0 ≤ V) (h4 : V ≤ 240) :
    Calls Try.prog 16 #[.agg #[.int .i64 M, .int .i64 V, .int .i64 c, .bool kn], .int .i64 x] w fun e w' => e = .returned (.agg #[.int .i64 (mV kn M x), .int .i64 (vV kn M V x), .int .i64 (clampV (mV kn M x + 4 * vV kn M V x)), .bool true]) ∧ Below w.heap.size w w' := by
  have hw : ∀ w, Calls Try.prog 53 #[.int .i64 x, .int .i64 0, .int .i64 240] w fun e w' => e = .returned (.int .i64 (tk x)) ∧ w = w' := fun w => within_any x 0 240 w
  have ht := tk_bd x
  have hf : 0 ≤ farV M (tk x) ∧ farV M (tk x) ≤ 240 := by unfold farV; split <;> omega
  cases kn
  · have e1 : mV false M x = tk x := rfl
    have e2 : vV false M V x = tk x / 2 := rfl
    rw [e1, e2]
    clear e1 e2
    go_enter Try.func16, Try.ntmps16
    go_wp2_with (first | (go_at_call 53; refine (hw _).mono ?_; rintro e w' ⟨rfl, rfl⟩) | (go_at_call 55; refine (waits_any _ _).mono ?_; rintro e w' ⟨rfl, rfl⟩) | (go_at_call 54; refine (far_any _ _ _ (by omega) (by omega) (by omega) (by omega)).mono ?_; rintro e w' ⟨rfl, rfl⟩))
    exact bodyPost_ret (v := .agg #[.int .i64 (tk x), .int .i64 (tk x / 2), .int .i64 (clampV (tk x + 4 * (tk x / 2))), .bool true]) (by simp [results, Try.results16, go_sem]) rfl ⟨rfl, by repeat (first | exact Below.refl _ _ | (refine Below.alloc ?_ (by simp; try omega) _) | (refine Below.setCell ?_ (by simp) _))⟩
  · have e1 : mV true M x = (7 * M + tk x) / 8 := rfl
    have e2 : vV true M V x = (3 * V + farV M (tk x)) / 4 := rfl
    rw [e1, e2]
    clear e1 e2
    go_enter Try.func16, Try.ntmps16
    go_wp2_with (first | (go_at_call 53; refine (hw _).mono ?_; rintro e w' ⟨rfl, rfl⟩))
    go_region_with (go_at_call 54; refine (far_any _ _ _ (by omega) (by omega) (by omega) (by omega)).mono ?_; rintro e w' ⟨rfl, rfl⟩)
    all_goals go_wp2_with (first | (go_at_call 55; refine (waits_any _ _).mono ?_; rintro e w' ⟨rfl, rfl⟩))
    all_goals exact bodyPost_ret (v := .agg #[.int .i64 ((7 * M + tk x) / 8), .int .i64 ((3 * V + farV M (tk x)) / 4), .int .i64 (clampV ((7 * M + tk x) / 8 + 4 * ((3 * V + farV M (tk x)) / 4))), .bool true]) (by simp [results, Try.results16, go_sem]) rfl ⟨rfl, by repeat (first | exact Below.refl _ _ | (refine Below.alloc ?_ (by simp; try omega) _) | (refine Below.setCell ?_ (by simp) _) | (refine Below.drew ?_) | (refine below_drewN ?_ _))⟩

end Go.Proofs.Ytoaocppdbgphgaa.rto
