/- Layer 4: a parameter's bytes, an address; each by a contract. -/
import Derived.Test.YtlpklnjnfeodaaaPre
import Derived.Test.YtlpklnjnfeodaaaRef3C
import Derived.Outline
import Derived.BigQuiet
namespace Go.Proofs.Ytlpklnjnfeodaaa.par
open Go.ChangeShapes Go.WideShapes Go.ChangeAt Go.RowKit kit oct
set_option maxRecDepth 100000

/-- May a parameter be? -/
def mayP (t : Int) (s : ByteArray) : Bool := decide (0 ≤ t ∧ t ≤ 65535 ∧ s.size ≤ 1000)
theorem mayP_yes {t : Int} {s : ByteArray} (a : 0 ≤ t) (b : t ≤ 65535) (c : s.size ≤ 1000) : mayP t s = true := by unfold mayP; simp [a, b, c]
theorem mayP_no {t : Int} {s : ByteArray} (h : ¬ (0 ≤ t ∧ t ≤ 65535 ∧ s.size ≤ 1000)) : mayP t s = false := by unfold mayP; simpa using h

theorem may_any (t : Int) (s : ByteArray) (w : World) : Calls Try.prog 14 #[.agg #[.int .i64 t, .string s]] w fun e w' => e = .returned (.bool (mayP t s)) ∧ Below w.heap.size w w' := by
  rcases (by omega : t < 0 ∨ 65535 < t ∨ (0 ≤ t ∧ t ≤ 65535)) with h | h | ⟨h1, h2⟩
  · rw [mayP_no (by omega)]
    go_enter Try.func14, Try.ntmps14
    go_wp2
    go_ret
    exact ⟨rfl, (Below.refl _ _).alloc (Nat.le_refl _) _⟩
  · rw [mayP_no (by omega)]
    go_enter Try.func14, Try.ntmps14
    go_wp2
    go_ret
    exact ⟨rfl, (Below.refl _ _).alloc (Nat.le_refl _) _⟩
  · by_cases h3 : s.size ≤ 1000
    · rw [mayP_yes h1 h2 h3]
      go_enter Try.func14, Try.ntmps14
      go_wp2
      go_ret
      exact ⟨ret_bool (by simp; omega), (Below.refl _ _).alloc (Nat.le_refl _) _⟩
    · rw [mayP_no (by omega)]
      go_enter Try.func14, Try.ntmps14
      go_wp2
      go_ret
      exact ⟨ret_bool (by simp; omega), (Below.refl _ _).alloc (Nat.le_refl _) _⟩

/-- A parameter's bytes. -/
def putP (t : Int) (s : ByteArray) : ByteArray := if mayP t s = true then filled (p2 t ++ p2 ((s.size : Int) + 4) ++ s) else ByteArray.empty

theorem put_any (t : Int) (s : ByteArray) (w : World) : Calls Try.prog 12 #[.agg #[.int .i64 t, .string s]] w fun e w' => e = .returned (.string (putP t s)) ∧ Below w.heap.size w w' := by
  unfold putP
  have hc := fun w => may_any t s w
  cases hm : mayP t s with
  | false =>
    rw [if_neg (by simp)]
    rw [hm] at hc
    clear hm
    go_enter Try.func12, Try.ntmps12
    go_wp2_with (go_at_call 14; refine (hc _).mono ?_; rintro e w1 ⟨rfl, hb⟩)
    go_ret
    exact ⟨rfl, ((Below.refl _ _).alloc (Nat.le_refl _) _).trans (hb.mono (by simp))⟩
  | true =>
    rw [if_pos rfl]
    rw [hm] at hc
    obtain ⟨h1, h2, h3⟩ : 0 ≤ t ∧ t ≤ 65535 ∧ s.size ≤ 1000 := by unfold mayP at hm; simpa using hm
    clear hm
    have u1 := fun w => u16_p t w h1 (by omega)
    have u2 := fun w => u16_p ((s.size : Int) + 4) w (by omega) (by omega)
    have hs1 := p2_size t
    have hs2 := p2_size ((s.size : Int) + 4)
    have hw : IntKind.i64.wrap ((s.size : Int) + 4) = (s.size : Int) + 4 := IntWalk.i64_in _ (by omega)
    have hf := fun w => filled_any (p2 t ++ p2 ((s.size : Int) + 4) ++ s) w (by simp; omega)
    have hs1' : (p2 t).size ≤ 2 := by omega
    have hs2' : (p2 ((s.size : Int) + 4)).size ≤ 2 := by omega
    clear hs1 hs2
    go_enter Try.func12, Try.ntmps12
    go_wp2_with (go_at_call 14; refine (hc _).mono ?_; rintro e w1 ⟨rfl, hb⟩)
    have B1 := (Blk.new _ _ _).below hb (by simp)
    have bel1 : Below w.heap.size w w1 := ((Below.refl _ _).alloc (Nat.le_refl _) _).trans (hb.mono (by simp))
    have k0 := cell_regrown (B1.cell 0)
    have k1 := cell_regrown (B1.cell 1)
    clear hb
    refine wp_region_quiet_below (by kernel_rfl) (by kernel_rfl) ?_
    repeat (any_goals (first | go_big_quiet_step ((first | (go_at_call 50; first | (with_reducible exact Calls.regrown_of (u1 _)) | (with_reducible exact Calls.regrown_of (u2 _))) | (go_at_call 49; exact Calls.regrown_of (hf _)))) | quiet_step ((first | (go_at_call 50; first | (with_reducible exact Calls.regrown_of (u1 _)) | (with_reducible exact Calls.regrown_of (u2 _))) | (go_at_call 49; exact Calls.regrown_of (hf _))))))
    refine wpQuiet_nil ?_
    intro _ hw'
    obtain ⟨⟨dq, osq⟩, hw''⟩ := hw'
    subst hw''
    go_wp2
    go_ret
    exact ⟨rfl, bel1.trans ((below_regrown _ dq osq).mono bel1.size)⟩

/-- The address as a parameter. -/
theorem addr_any (a : Int) (w : World) (h0 : 0 ≤ a) (h1 : a ≤ 4294967295) : Calls Try.prog 55 #[.int .u32 a] w fun e w' => e = .returned (.agg #[.int .i64 5, .string (p4 a)]) ∧ Below w.heap.size w w' := by
  go_enter Try.func55, Try.ntmps55
  go_wp2_with (go_at_call 23; refine (u32_p _ _ h0 h1).mono ?_; rintro e w1 ⟨rfl, hb⟩; have B1 := (Blk.new _ _ _).below hb (by simp); have C1 := fun i => B1.cell i; have F1 := fun i => B1.frozen i; have hz1 : w.heap.size < w1.heap.size := (by have := hb.size; simp at this; omega))
  exact bodyPost_ret (v := .agg #[.int .i64 5, .string (p4 a)]) (by simp [results, Try.results55, go_sem, C1, F1, hz1] <;> rfl) rfl ⟨rfl, ((((Below.refl w.heap.size w).alloc (Nat.le_refl _) _).trans (hb.mono (by simp))).setCell (by simp) _).setCell (by simp) _⟩
theorem asAddr_yes (s : ByteArray) (w : World) (h : s.size = 4) : Calls Try.prog 22 #[.agg #[.int .i64 5, .string s]] w fun e w' => e = .returned (.tuple #[.int .u32 (numV s.data.toList), .bool true]) ∧ Below w.heap.size w w' := by
  have e1 : rdN s 4 = numV s.data.toList := by unfold rdN; rw [if_pos (by omega), List.take_of_length_le (by rw [len_data]; omega)]
  have hs : ((s.size : Int) != 4) = false := by simp; omega
  have hsm : s.size ≤ maxLen := by unfold maxLen; omega
  rw [← e1]
  clear e1 h
  go_enter Try.func22, Try.ntmps22
  go_wp2_with (go_at_call 51; refine (new_any _ _).mono ?_; rintro e w1 ⟨rfl, rfl⟩)
  refine (r32_any (w.heap.size + 1) s 0 _ (blk_new2 w _ _ _) hsm).mono ?_
  rintro e w2 ⟨rfl, hr, ht⟩
  go_wp2_with fail
  go_ret2
  exact ⟨rfl, ht.below (((Below.refl w.heap.size w).alloc (Nat.le_refl _) _).alloc (by simp) _) (by omega) (by simp; omega)⟩
theorem asAddr_no (t : Int) (s : ByteArray) (w : World) (h : ¬ (t = 5 ∧ s.size = 4)) : Calls Try.prog 22 #[.agg #[.int .i64 t, .string s]] w fun e w' => e = .returned (.tuple #[.int .u32 0, .bool false]) ∧ Below w.heap.size w w' := by
  by_cases ht : t = 5
  · have hs : ((s.size : Int) != 4) = true := by simp; omega
    subst ht
    go_enter Try.func22, Try.ntmps22
    go_wp2_with fail
    go_ret2
    exact ⟨rfl, (Below.refl _ _).alloc (Nat.le_refl _) _⟩
  · have hs : (t != 5) = true := by simpa using ht
    go_enter Try.func22, Try.ntmps22
    go_wp2_with fail
    go_ret2
    exact ⟨rfl, (Below.refl _ _).alloc (Nat.le_refl _) _⟩
end Go.Proofs.Ytlpklnjnfeodaaa.par
