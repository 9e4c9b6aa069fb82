/- Layer 9: the statement on a seal with one byte changed, walked. -/
import Derived.Test.YtbdbcjhahlofiaaDoorMacE
namespace Go.Proofs.YtbdbcjhahlofiaaDoor.mac
open Go.ChangeShapes Go.WideShapes Go.ChangeAt Go.RowKit kit byt dig
open oct

theorem changed (M : ByteArray) (i : Nat) (x b : UInt8) (hi : i < M.data.toList.length) (hx : M.data.toList[i] = x) : decide (str (M.data.toList.set i (x ^^^ b)) = M) = ((b.toNat : Int) == 0) := by
  by_cases h : b = 0
  · subst h
    rw [UInt8.xor_zero, ← hx, List.set_getElem_self, str_self]
    simp
  · rw [decide_eq_false, eq_comm, beq_eq_false_iff_ne]
    · intro c
      exact h (UInt8.toNat_inj.1 (Int.ofNat.inj c))
    · intro e
      have e2 : M.data.toList.set i (x ^^^ b) = M.data.toList := by
        have := congrArg (fun z : ByteArray => z.data.toList) e
        simpa [str_data] using this
      have e3 : (M.data.toList.set i (x ^^^ b))[i]? = some x := by rw [e2, List.getElem?_eq_getElem hi, hx]
      rw [List.getElem?_set_self hi] at e3
      have e4 := Option.some.inj e3
      apply h
      have : x ^^^ (x ^^^ b) = 0 := by rw [e4, UInt8.xor_self]
      rwa [← UInt8.xor_assoc, UInt8.xor_self, UInt8.zero_xor] at this
end Go.Proofs.YtbdbcjhahlofiaaDoor.mac
