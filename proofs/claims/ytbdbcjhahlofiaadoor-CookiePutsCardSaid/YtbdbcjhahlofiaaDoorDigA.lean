/- Layer 8: small functions of digests, by contracts. -/
import Derived.Test.YtbdbcjhahlofiaaDoorReadB
import Derived.Test.YtbdbcjhahlofiaaDoorRef3
import Derived.Test.YtbdbcjhahlofiaaDoorRef3D
import Derived.Test.YtbdbcjhahlofiaaDoorDigM
import Derived.WalkLawsBesides
import Derived.LoopTactic
import Derived.Outline
import Derived.Laws.CopyOwn
import Derived.Lib.LaidTab
import Derived.Laws.ShiftsVarLaws
namespace Go.Proofs.YtbdbcjhahlofiaaDoor.dig
open Go.ChangeShapes Go.WideShapes Go.ChangeAt Go.RowKit kit
open crc (ones xor_ones word)
open oct

theorem or32 (a b : Nat) (h : a < 4294967296) (h' : b < 4294967296) : bits .or .u32 (a : Int) (b : Int) = ((a ||| b : Nat) : Int) := u32_or_nat a b h h'
theorem and32 (a b : Nat) (h : a < 4294967296) (h' : b < 4294967296) : bits .and .u32 (a : Int) (b : Int) = ((a &&& b : Nat) : Int) := u32_and_nat a b h h'
theorem xor32 (a b : Nat) (h : a < 4294967296) (h' : b < 4294967296) : bits .xor .u32 (a : Int) (b : Int) = ((a ^^^ b : Nat) : Int) := u32_xor_nat a b h h'
theorem not32 (b : Nat) (h : b < 4294967296) : bits .xor .u32 IntKind.u32.max (b : Int) = ((ones - b : Nat) : Int) := by
  rw [show IntKind.u32.max = ((ones : Nat) : Int) by decide, xor32 _ _ (by decide) h, xor_ones _ h]

theorem rot_or1 (x : Nat) (h : x < 4294967296) : bits .or .u32 ((x : Int) * 2 % 4294967296) ((x : Int) / 2147483648) = (rot x 1 : Nat) :=
  or32 (x * 2 % 4294967296) (x / 2147483648) (Nat.mod_lt _ (by decide)) (Nat.lt_of_le_of_lt (Nat.div_le_self _ _) h)
set_option maxRecDepth 100000 in
theorem rot1 (x : Nat) (w : World) (h : x < 4294967296) : Calls Tryd.prog 67 #[.int .u32 x, .int .i64 1] w fun e w' => e = .returned (.int .u32 (rot x 1 : Nat)) ∧ w = w' := by
  have hk : bits .and .u64 1 31 = 1 := by decide
  have ho := rot_or1 x h
  go_enter Tryd.func67, Tryd.ntmps67
  go_wp2
  go_ret
  exact ⟨rfl, rfl⟩
set_option maxRecDepth 100000 in
theorem turn1 (x : Nat) (w : World) (h : x < 4294967296) : Calls Tryd.prog 55 #[.int .u32 x, .int .u64 1] w fun e w' => e = .returned (.int .u32 (rot x 1 : Nat)) ∧ w = w' := by
  have ho := rot_or1 x h
  go_enter Tryd.func55, Tryd.ntmps55
  go_wp2
  go_ret
  exact ⟨rfl, rfl⟩
theorem rot_or5 (x : Nat) (h : x < 4294967296) : bits .or .u32 ((x : Int) * 32 % 4294967296) ((x : Int) / 134217728) = (rot x 5 : Nat) :=
  or32 (x * 32 % 4294967296) (x / 134217728) (Nat.mod_lt _ (by decide)) (Nat.lt_of_le_of_lt (Nat.div_le_self _ _) h)
set_option maxRecDepth 100000 in
theorem rot5 (x : Nat) (w : World) (h : x < 4294967296) : Calls Tryd.prog 67 #[.int .u32 x, .int .i64 5] w fun e w' => e = .returned (.int .u32 (rot x 5 : Nat)) ∧ w = w' := by
  have hk : bits .and .u64 5 31 = 5 := by decide
  have ho := rot_or5 x h
  go_enter Tryd.func67, Tryd.ntmps67
  go_wp2
  go_ret
  exact ⟨rfl, rfl⟩
set_option maxRecDepth 100000 in
theorem turn5 (x : Nat) (w : World) (h : x < 4294967296) : Calls Tryd.prog 55 #[.int .u32 x, .int .u64 5] w fun e w' => e = .returned (.int .u32 (rot x 5 : Nat)) ∧ w = w' := by
  have ho := rot_or5 x h
  go_enter Tryd.func55, Tryd.ntmps55
  go_wp2
  go_ret
  exact ⟨rfl, rfl⟩
theorem rot_or30 (x : Nat) (h : x < 4294967296) : bits .or .u32 ((x : Int) * 1073741824 % 4294967296) ((x : Int) / 4) = (rot x 30 : Nat) :=
  or32 (x * 1073741824 % 4294967296) (x / 4) (Nat.mod_lt _ (by decide)) (Nat.lt_of_le_of_lt (Nat.div_le_self _ _) h)
set_option maxRecDepth 100000 in
theorem rot30 (x : Nat) (w : World) (h : x < 4294967296) : Calls Tryd.prog 67 #[.int .u32 x, .int .i64 30] w fun e w' => e = .returned (.int .u32 (rot x 30 : Nat)) ∧ w = w' := by
  have hk : bits .and .u64 30 31 = 30 := by decide
  have ho := rot_or30 x h
  go_enter Tryd.func67, Tryd.ntmps67
  go_wp2
  go_ret
  exact ⟨rfl, rfl⟩
set_option maxRecDepth 100000 in
theorem turn30 (x : Nat) (w : World) (h : x < 4294967296) : Calls Tryd.prog 55 #[.int .u32 x, .int .u64 30] w fun e w' => e = .returned (.int .u32 (rot x 30 : Nat)) ∧ w = w' := by
  have ho := rot_or30 x h
  go_enter Tryd.func55, Tryd.ntmps55
  go_wp2
  go_ret
  exact ⟨rfl, rfl⟩

set_option maxRecDepth 100000 in
theorem chosen_any (n b c d : Nat) (w : World) (hn : n < 80) (hb : b < 4294967296) (hc : c < 4294967296) (hd : d < 4294967296) : Calls Tryd.prog 68 #[.int .i64 n, .int .u32 b, .int .u32 c, .int .u32 d] w fun e w' => e = .returned (.int .u32 (ch n b c d : Nat)) ∧ w = w' := by
  have h1 := and32 b c hb hc
  have h2 := and32 b d hb hd
  have h3 := and32 c d hc hd
  have h4 := not32 b hb
  have h5 := and32 (ones - b) d (by unfold ones; omega) hd
  have h6 := or32 (b &&& c) ((ones - b) &&& d) (and_lt hb) (and_lt (by unfold ones; omega))
  have h7 := or32 (b &&& c) (b &&& d) (and_lt hb) (and_lt hb)
  have h8 := or32 (b &&& c ||| b &&& d) (c &&& d) (or_lt (and_lt hb) (and_lt hb)) (and_lt hc)
  have h9 := xor32 b c hb hc
  have h10 := xor32 (b ^^^ c) d (xor_lt hb hc) hd
  by_cases q0 : n / 20 = 0
  · have e0 : (((n : Int) / 20) == 0) = true := by rw [beq_iff_eq]; omega
    have HC := Lib.hid (show ch n b c d = b &&& c ||| (ones - b) &&& d by unfold ch; rw [if_pos q0])
    clear q0 h2 h3 h7 h8 h9 h10 hb hc hd
    generalize ones - b = nb at *
    go_enter Tryd.func68, Tryd.ntmps68
    go_wp2
    go_ret
    rw [HC.out]
    exact ⟨rfl, rfl⟩
  · have e0 : (((n : Int) / 20) == 0) = false := by rw [beq_eq_false_iff_ne]; omega
    by_cases q2 : n / 20 = 2
    · have e2 : (((n : Int) / 20) == 2) = true := by rw [beq_iff_eq]; omega
      have HC := Lib.hid (show ch n b c d = b &&& c ||| b &&& d ||| c &&& d by unfold ch; rw [if_neg q0, if_pos q2])
      clear q0 q2 h4 h5 h6 h9 h10 hb hc hd
      go_enter Tryd.func68, Tryd.ntmps68
      go_wp2
      go_ret
      rw [HC.out]
      exact ⟨rfl, rfl⟩
    · have e2 : (((n : Int) / 20) == 2) = false := by rw [beq_eq_false_iff_ne]; omega
      have HC := Lib.hid (show ch n b c d = b ^^^ c ^^^ d by unfold ch; rw [if_neg q0, if_neg q2])
      clear q0 q2 h1 h2 h3 h4 h5 h6 h7 h8 hb hc hd
      go_enter Tryd.func68, Tryd.ntmps68
      go_wp2
      go_ret
      rw [HC.out]
      exact ⟨rfl, rfl⟩
set_option maxRecDepth 100000 in
theorem round_any (n b c d : Nat) (w : World) (hn : n < 80) (hb : b < 4294967296) (hc : c < 4294967296) (hd : d < 4294967296) : Calls Tryd.prog 56 #[.int .i64 n, .int .u32 b, .int .u32 c, .int .u32 d] w fun e w' => e = .returned (.tuple #[.int .u32 (ch n b c d : Nat), .int .u32 (ad n : Nat)]) ∧ w = w' := by
  have h1 := and32 b c hb hc
  have h2 := or32 b c hb hc
  have h3 := and32 d (b ||| c) hd (or_lt hb hc)
  have h4 := or32 (b &&& c) (d &&& (b ||| c)) (and_lt hb) (and_lt hd)
  have h5 := xor32 c d hc hd
  have h6 := and32 b (c ^^^ d) hb (xor_lt hc hd)
  have h7 := xor32 d (b &&& (c ^^^ d)) hd (and_lt hb)
  have h9 := xor32 b c hb hc
  have h10 := xor32 (b ^^^ c) d (xor_lt hb hc) hd
  by_cases q0 : n < 20
  · have e0 : decide ((n : Int) < 20) = true := decide_eq_true (by omega)
    have HC := Lib.hid (show ch n b c d = d ^^^ (b &&& (c ^^^ d)) by unfold ch; rw [if_pos (by omega), ch0 b c d hb hd])
    have HA := Lib.hid (show ad n = 1518500249 by unfold ad; rw [show n / 20 = 0 by omega]; rfl)
    clear q0 hn h1 h2 h3 h4 h9 h10 hb hc hd
    go_enter Tryd.func56, Tryd.ntmps56
    go_wp2
    go_ret2
    rw [HC.out, HA.out]
    exact ⟨rfl, rfl⟩
  · have e0 : decide ((n : Int) < 20) = false := decide_eq_false (by omega)
    by_cases q1 : n < 40
    · have e1 : decide ((n : Int) < 40) = true := decide_eq_true (by omega)
      have HC := Lib.hid (show ch n b c d = b ^^^ c ^^^ d by unfold ch; rw [if_neg (by omega), if_neg (by omega)])
      have HA := Lib.hid (show ad n = 1859775393 by unfold ad; rw [show n / 20 = 1 by omega]; rfl)
      clear q0 q1 hn h1 h2 h3 h4 h5 h6 h7 hb hc hd
      go_enter Tryd.func56, Tryd.ntmps56
      go_wp2
      go_ret2
      rw [HC.out, HA.out]
      exact ⟨rfl, rfl⟩
    · have e1 : decide ((n : Int) < 40) = false := decide_eq_false (by omega)
      by_cases q2 : n < 60
      · have e2 : decide ((n : Int) < 60) = true := decide_eq_true (by omega)
        have HC := Lib.hid (show ch n b c d = b &&& c ||| d &&& (b ||| c) by unfold ch; rw [if_neg (by omega), if_pos (by omega), ch2])
        have HA := Lib.hid (show ad n = 2400959708 by unfold ad; rw [show n / 20 = 2 by omega]; rfl)
        clear q0 q1 q2 hn h5 h6 h7 h9 h10 hb hc hd
        go_enter Tryd.func56, Tryd.ntmps56
        go_wp2
        go_ret2
        rw [HC.out, HA.out]
        exact ⟨rfl, rfl⟩
      · have e2 : decide ((n : Int) < 60) = false := decide_eq_false (by omega)
        have HC := Lib.hid (show ch n b c d = b ^^^ c ^^^ d by unfold ch; rw [if_neg (by omega), if_neg (by omega)])
        have HA := Lib.hid (show ad n = 3395469782 by unfold ad; rw [show n / 20 = 3 by omega]; rfl)
        clear q0 q1 q2 hn h1 h2 h3 h4 h5 h6 h7 hb hc hd
        go_enter Tryd.func56, Tryd.ntmps56
        go_wp2
        go_ret2
        rw [HC.out, HA.out]
        exact ⟨rfl, rfl⟩
end Go.Proofs.YtbdbcjhahlofiaaDoor.dig
