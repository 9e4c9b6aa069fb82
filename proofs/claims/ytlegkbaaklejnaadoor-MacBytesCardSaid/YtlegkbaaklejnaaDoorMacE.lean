/- Layer 9: the statement on whether a seal is that of bytes, walked. -/
import Derived.Test.YtlegkbaaklejnaaDoorMacD
namespace Go.Proofs.YtlegkbaaklejnaaDoor.mac
open Go.ChangeShapes Go.WideShapes Go.ChangeAt Go.RowKit kit byt dig
open oct

theorem str_same (a b : ByteArray) : (a.toList == b.toList) = decide (a = b) := by
  by_cases h : a = b
  · rw [decide_eq_true h, h, beq_self_eq_true]
  · rw [decide_eq_false h, beq_eq_false_iff_ne, ByteArray.toList_eq, ByteArray.toList_eq]
    intro e
    exact h (ByteArray.ext (Array.toList_inj.1 e))
set_option maxRecDepth 100000 in
set_option maxHeartbeats 1000000 in
theorem is_law (key s q : ByteArray) (w : World) (S0 : Starts w) (A : Added w) (hk : key.size ≤ maxLen) (hs : s.size ≤ maxLen) (hq : q.size ≤ maxLen) : Calls Tryd.prog 9 #[.string key, .string s, .string q] w fun e w' => e = .returned (.bool true) ∧ Below w.heap.size w w' := by
  have hK := fun w => slice_first 100 key w
  have hT := fun w => slice_first 200 s w
  simp only [show ((100 : Nat) : Int) = 100 from rfl] at hK
  simp only [show ((200 : Nat) : Int) = 200 from rfl] at hT
  have lK := firsts_size 100 key
  have lT := firsts_size 200 s
  generalize firsts 100 key = K at *
  generalize firsts 200 s = T at *
  have hRf := fun w => refmac_any K T w (by omega) (by omega)
  have hM := macS_size K T
  have I1 := fun w S0 A => is_any K T (macS K T) w S0 A (by omega) (by omega) (by unfold maxLen; omega)
  have I2 := fun w S0 A => is_any K T q w S0 A (by omega) (by omega) hq
  have I3 := fun w S0 A => is_any K T (macS K T ++ ⟨#[120]⟩) w S0 A (by omega) (by omega) (by
    rw [ByteArray.size_append, hM]; exact by decide)
  have I4 := fun w S0 A => is_any K T ((macS K T).extract 0 19) w S0 A (by omega) (by omega) (by
    rw [ByteArray.size_extract, hM]; exact by decide)
  rw [decide_eq_true (rfl : macS K T = macS K T)] at I1
  rw [decide_eq_false (by intro h; have := congrArg ByteArray.size h; rw [ByteArray.size_append, hM] at this; exact absurd this (by decide))] at I3
  rw [decide_eq_false (by intro h; have := congrArg ByteArray.size h; rw [ByteArray.size_extract, hM] at this; exact absurd this (by decide))] at I4
  have hsl := fun w => run_slice_string_h w 9 (macS K T) Tryd.underlying9 .i64 19 (by omega) (by omega)
  simp only [show (19 : Int).toNat = 19 from rfl] at hsl
  have hE := str_same q (macS K T)
  generalize decide (q = macS K T) = B at *
  generalize macS K T = M at *
  have hM20 : M.size ≤ 20 := by omega
  obtain ⟨N, hN⟩ : ∃ N, M.extract 0 19 = N := ⟨_, rfl⟩
  rw [hN] at hsl I4
  unfold maxLen at hk hs hq
  have HS := Lib.hid S0
  have HA := Lib.hid A
  clear S0 A lK lT hN hM
  go_enter Tryd.func9, Tryd.ntmps9
  go_upto_region 1 with (fail)
  refine wp_region_still_tail 11 (by kernel_rfl) (by kernel_rfl) ?_
  simp only [List.take_succ_cons, List.take_zero, List.drop_succ_cons, List.drop_zero]
  repeat still_step
  refine wpStill_nil ?_
  change wpList _ _ _ _ _ w.drew
  have HS0 := Lib.hid (show Starts w.drew from HS.out)
  have HA0 := Lib.hid (show Added w.drew from HA.out)
  have bel0 := (Below.refl w.heap.size w).drew
  generalize w.drew = w0 at *
  go_wp2_with fail
  refine (hRf _).mono ?_
  rintro e w1 ⟨rfl, hb1⟩
  clear hK hT hRf
  have HS1 := Lib.hid (HS0.out.below hb1)
  have HA1 := Lib.hid (HA0.out.below hb1)
  have bel1 := bel0.trans (hb1.mono bel0.size)
  clear HS HA HS0 HA0 bel0 hb1
  go_wp2_with fail
  refine (awake9 w1 HS1.out HA1.out).mono ?_
  rintro e w2 ⟨rfl, hb2⟩
  have HS2 := Lib.hid (HS1.out.below hb2)
  have HA2 := Lib.hid (HA1.out.below hb2)
  have bel2 := bel1.trans (hb2.mono bel1.size)
  clear HS1 HA1 bel1 hb2
  go_wp2_with fail
  refine (I1 w2 HS2.out HA2.out).mono ?_
  rintro e w3 ⟨rfl, hb3⟩
  have HS3 := Lib.hid (HS2.out.below hb3)
  have HA3 := Lib.hid (HA2.out.below hb3)
  have bel3 := bel2.trans (hb3.mono bel2.size)
  clear HS2 HA2 bel2 hb3
  go_wp2_with fail
  refine (I2 w3 HS3.out HA3.out).mono ?_
  rintro e w4 ⟨rfl, hb4⟩
  have HS4 := Lib.hid (HS3.out.below hb4)
  have HA4 := Lib.hid (HA3.out.below hb4)
  have bel4 := bel3.trans (hb4.mono bel3.size)
  clear HS3 HA3 bel3 hb4
  go_wp2_with fail
  refine (I3 w4 HS4.out HA4.out).mono ?_
  rintro e w5 ⟨rfl, hb5⟩
  have HS5 := Lib.hid (HS4.out.below hb5)
  have HA5 := Lib.hid (HA4.out.below hb5)
  have bel5 := bel4.trans (hb5.mono bel4.size)
  clear HS4 HA4 bel4 hb5
  go_wp2_with fail
  refine (I4 w5 HS5.out HA5.out).mono ?_
  rintro e w6 ⟨rfl, hb6⟩
  have bel6 := bel5.trans (hb6.mono bel5.size)
  go_wp2
  go_ret
  exact ⟨rfl, bel6⟩
end Go.Proofs.YtlegkbaaklejnaaDoor.mac
