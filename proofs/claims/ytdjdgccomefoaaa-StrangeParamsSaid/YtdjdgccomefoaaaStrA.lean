/- Layer 24: a parameter's bytes by both; lists of parameters in memory. -/
import Derived.Test.YtdjdgccomefoaaaPar
import Derived.Test.YtdjdgccomefoaaaRules
import Derived.Test.YtdjdgccomefoaaaKitD
import Derived.LoopTactic
import Derived.OwnWalk
import Derived.Laws.AppendOwn
import Derived.Deep.AppendLies
import Derived.Deep.RegionHeld3
import Derived.Deep.CutBlock
import Derived.Deep.DeepCutAuto
import Derived.Deep.RegionWith
import Derived.Deep.RegionLaw
import Derived.BigRegion
import Derived.Lib.Hide
namespace Go.Proofs.Ytdjdgccomefoaaa.par
open Go.ChangeShapes Go.WideShapes Go.ChangeAt Go.RowKit kit oct
set_option maxRecDepth 100000

theorem putP_size {t : Int} {v : ByteArray} (h : mayP t v = true) : ((putP t v).size : Int) = 4 + v.size + -((v.size : Int) + 4) % 4 := by
  unfold putP
  rw [if_pos h]
  unfold filled
  rw [ByteArray.size_append, zeros_size]
  have e : (p2 t ++ p2 ((v.size : Int) + 4) ++ v).size = v.size + 4 := by simp [p2_size]; omega
  rw [e]
  omega
theorem may_of {t : Int} {v : ByteArray} (h : mayP t v = true) : 0 ≤ t ∧ t ≤ 65535 ∧ v.size ≤ 1000 := by unfold mayP at h; simpa using h

/-- The bytes of a parameter, and whatever behind them: it is taken again. -/
theorem rmay_any (t : Int) (s : ByteArray) (w : World) : Calls Try.prog 119 #[.agg #[.int .i64 t, .string s]] w fun e w' => e = .returned (.bool (mayP t s)) ∧ Below w.heap.size w w' := by
  rcases (by omega : t < 0 ∨ 65535 < t ∨ (0 ≤ t ∧ t ≤ 65535)) with h | h | ⟨h1, h2⟩
  · rw [mayP_no (by omega)]
    go_enter Try.func119, Try.ntmps119
    go_wp2
    go_ret
    exact ⟨rfl, (Below.refl _ _).alloc (Nat.le_refl _) _⟩
  · rw [mayP_no (by omega)]
    go_enter Try.func119, Try.ntmps119
    go_wp2
    go_ret
    exact ⟨rfl, (Below.refl _ _).alloc (Nat.le_refl _) _⟩
  · by_cases h3 : s.size ≤ 1000
    · rw [mayP_yes h1 h2 h3]
      go_enter Try.func119, Try.ntmps119
      go_wp2
      go_ret
      exact ⟨ret_bool (by simp; omega), (Below.refl _ _).alloc (Nat.le_refl _) _⟩
    · rw [mayP_no (by omega)]
      go_enter Try.func119, Try.ntmps119
      go_wp2
      go_ret
      exact ⟨ret_bool (by simp; omega), (Below.refl _ _).alloc (Nat.le_refl _) _⟩

theorem rput_any (t : Int) (s : ByteArray) (w : World) : Calls Try.prog 52 #[.agg #[.int .i64 t, .string s]] w fun e w' => e = .returned (.string (putP t s)) ∧ Below w.heap.size w w' := by
  unfold putP
  have hc := fun w => rmay_any t s w
  cases hm : mayP t s with
  | false =>
    rw [if_neg (by simp)]
    rw [hm] at hc
    clear hm
    go_enter Try.func52, Try.ntmps52
    go_wp2_with (go_at_call 119; refine (hc _).mono ?_; rintro e w1 ⟨rfl, hb⟩)
    go_ret
    exact ⟨rfl, ((Below.refl _ _).alloc (Nat.le_refl _) _).trans (hb.mono (by simp))⟩
  | true =>
    rw [if_pos rfl]
    rw [hm] at hc
    obtain ⟨h1, h2, h3⟩ := may_of hm
    clear hm
    have u1 : ∀ w, Calls Try.prog 40 #[.int .u64 t, .int .i64 2] w fun e w' => e = .returned (.string (p2 t)) ∧ Below w.heap.size w w' := fun w => put_at 2 t 2 w rfl (by omega) h1 (by omega)
    have u2 : ∀ w, Calls Try.prog 40 #[.int .u64 ((s.size : Int) + 4), .int .i64 2] w fun e w' => e = .returned (.string (p2 ((s.size : Int) + 4))) ∧ Below w.heap.size w w' := fun w => put_at 2 ((s.size : Int) + 4) 2 w rfl (by omega) (by omega) (by omega)
    have hs1 := p2_size t
    have hs2 := p2_size ((s.size : Int) + 4)
    have hw : IntKind.i64.wrap ((s.size : Int) + 4) = (s.size : Int) + 4 := IntWalk.i64_in _ (by omega)
    have hw2 : IntKind.u64.wrap ((s.size : Int) + 4) = (s.size : Int) + 4 := IntWalk.u64_in _ (by omega)
    have hw3 : IntKind.u64.wrap t = t := IntWalk.u64_in _ (by omega)
    have hf := fun w => rfilled (p2 t ++ p2 ((s.size : Int) + 4) ++ s) w (by simp; omega)
    have hf' : ∀ w, Calls Try.prog 120 #[.string (p2 t ++ p2 ((s.size : Int) + 4) ++ s)] w fun e w' => e = .returned (.string (filled (p2 t ++ p2 ((s.size : Int) + 4) ++ s))) ∧ Below w.heap.size w w' := fun w => (hf w).mono fun _ _ ⟨a, b⟩ => ⟨a, by rw [← b]; exact Below.refl _ _⟩
    have hs1' : (p2 t).size ≤ 2 := by omega
    have hs2' : (p2 ((s.size : Int) + 4)).size ≤ 2 := by omega
    clear hs1 hs2 hf
    go_enter Try.func52, Try.ntmps52
    go_wp2_with (go_at_call 119; refine (hc _).mono ?_; rintro e w1 ⟨rfl, hb⟩)
    have B1 := (Blk.new _ _ _).below hb (by simp)
    have bel1 : Below w.heap.size w w1 := ((Below.refl _ _).alloc (Nat.le_refl _) _).trans (hb.mono (by simp))
    have k0 := cell_regrown (B1.cell 0)
    have k1 := cell_regrown (B1.cell 1)
    clear hb
    refine wp_region_quiet_below (by kernel_rfl) (by kernel_rfl) ?_
    repeat (any_goals (first | go_big_quiet_step ((first | (go_at_call 40; first | (with_reducible exact Calls.regrown_of (u1 _)) | (with_reducible exact Calls.regrown_of (u2 _))) | (go_at_call 120; exact Calls.regrown_of (hf' _)))) | quiet_step ((first | (go_at_call 40; first | (with_reducible exact Calls.regrown_of (u1 _)) | (with_reducible exact Calls.regrown_of (u2 _))) | (go_at_call 120; exact Calls.regrown_of (hf' _))))))
    refine wpQuiet_nil ?_
    intro _ hw'
    obtain ⟨⟨dq, osq⟩, hw''⟩ := hw'
    subst hw''
    go_wp2
    go_ret
    exact ⟨rfl, bel1.trans ((below_regrown _ dq osq).mono bel1.size)⟩

end Go.Proofs.Ytdjdgccomefoaaa.par
