/- Layer 4: a parameter's bytes, an address; each by a contract. -/
import Derived.Test.YtdjdgccomefoaaaPre
import Derived.Test.YtdjdgccomefoaaaRef3C
import Derived.Outline
import Derived.BigQuiet
namespace Go.Proofs.Ytdjdgccomefoaaa.par
open Go.ChangeShapes Go.WideShapes Go.ChangeAt Go.RowKit kit oct
set_option maxRecDepth 100000

/-- May a parameter be? -/
def mayP (t : Int) (s : ByteArray) : Bool := decide (0 ≤ t ∧ t ≤ 65535 ∧ s.size ≤ 1000)
theorem mayP_yes {t : Int} {s : ByteArray} (a : 0 ≤ t) (b : t ≤ 65535) (c : s.size ≤ 1000) : mayP t s = true := by unfold mayP; simp [a, b, c]
theorem mayP_no {t : Int} {s : ByteArray} (h : ¬ (0 ≤ t ∧ t ≤ 65535 ∧ s.size ≤ 1000)) : mayP t s = false := by unfold mayP; simpa using h

theorem may_any (t : Int) (s : ByteArray) (w : World) : Calls Try.prog 168 #[.agg #[.int .i64 t, .string s]] w fun e w' => e = .returned (.bool (mayP t s)) ∧ Below w.heap.size w w' := by
  rcases (by omega : t < 0 ∨ 65535 < t ∨ (0 ≤ t ∧ t ≤ 65535)) with h | h | ⟨h1, h2⟩
  · rw [mayP_no (by omega)]
    go_enter Try.func168, Try.ntmps168
    go_wp2
    go_ret
    exact ⟨rfl, (Below.refl _ _).alloc (Nat.le_refl _) _⟩
  · rw [mayP_no (by omega)]
    go_enter Try.func168, Try.ntmps168
    go_wp2
    go_ret
    exact ⟨rfl, (Below.refl _ _).alloc (Nat.le_refl _) _⟩
  · by_cases h3 : s.size ≤ 1000
    · rw [mayP_yes h1 h2 h3]
      go_enter Try.func168, Try.ntmps168
      go_wp2
      go_ret
      exact ⟨ret_bool (by simp; omega), (Below.refl _ _).alloc (Nat.le_refl _) _⟩
    · rw [mayP_no (by omega)]
      go_enter Try.func168, Try.ntmps168
      go_wp2
      go_ret
      exact ⟨ret_bool (by simp; omega), (Below.refl _ _).alloc (Nat.le_refl _) _⟩

/-- A parameter's bytes. -/
def putP (t : Int) (s : ByteArray) : ByteArray := if mayP t s = true then filled (p2 t ++ p2 ((s.size : Int) + 4) ++ s) else ByteArray.empty

theorem put_any (t : Int) (s : ByteArray) (w : World) : Calls Try.prog 123 #[.agg #[.int .i64 t, .string s]] w fun e w' => e = .returned (.string (putP t s)) ∧ Below w.heap.size w w' := by
  unfold putP
  have hc := fun w => may_any t s w
  cases hm : mayP t s with
  | false =>
    rw [if_neg (by simp)]
    rw [hm] at hc
    clear hm
    go_enter Try.func123, Try.ntmps123
    go_wp2_with (go_at_call 168; refine (hc _).mono ?_; rintro e w1 ⟨rfl, hb⟩)
    go_ret
    exact ⟨rfl, ((Below.refl _ _).alloc (Nat.le_refl _) _).trans (hb.mono (by simp))⟩
  | true =>
    rw [if_pos rfl]
    rw [hm] at hc
    obtain ⟨h1, h2, h3⟩ : 0 ≤ t ∧ t ≤ 65535 ∧ s.size ≤ 1000 := by unfold mayP at hm; simpa using hm
    clear hm
    have u1 := fun w => u16_p t w h1 (by omega)
    have u2 := fun w => u16_p ((s.size : Int) + 4) w (by omega) (by omega)
    have hs1 := p2_size t
    have hs2 := p2_size ((s.size : Int) + 4)
    have hw : IntKind.i64.wrap ((s.size : Int) + 4) = (s.size : Int) + 4 := IntWalk.i64_in _ (by omega)
    have hf := fun w => filled_any (p2 t ++ p2 ((s.size : Int) + 4) ++ s) w (by simp; omega)
    have hs1' : (p2 t).size ≤ 2 := by omega
    have hs2' : (p2 ((s.size : Int) + 4)).size ≤ 2 := by omega
    clear hs1 hs2
    go_enter Try.func123, Try.ntmps123
    go_wp2_with (go_at_call 168; refine (hc _).mono ?_; rintro e w1 ⟨rfl, hb⟩)
    have B1 := (Blk.new _ _ _).below hb (by simp)
    have bel1 : Below w.heap.size w w1 := ((Below.refl _ _).alloc (Nat.le_refl _) _).trans (hb.mono (by simp))
    have k0 := cell_regrown (B1.cell 0)
    have k1 := cell_regrown (B1.cell 1)
    clear hb
    refine wp_region_quiet_below (by kernel_rfl) (by kernel_rfl) ?_
    repeat (any_goals (first | go_big_quiet_step ((first | (go_at_call 148; first | (with_reducible exact Calls.regrown_of (u1 _)) | (with_reducible exact Calls.regrown_of (u2 _))) | (go_at_call 147; exact Calls.regrown_of (hf _)))) | quiet_step ((first | (go_at_call 148; first | (with_reducible exact Calls.regrown_of (u1 _)) | (with_reducible exact Calls.regrown_of (u2 _))) | (go_at_call 147; exact Calls.regrown_of (hf _))))))
    refine wpQuiet_nil ?_
    intro _ hw'
    obtain ⟨⟨dq, osq⟩, hw''⟩ := hw'
    subst hw''
    go_wp2
    go_ret
    exact ⟨rfl, bel1.trans ((below_regrown _ dq osq).mono bel1.size)⟩

end Go.Proofs.Ytdjdgccomefoaaa.par
