/- Layer 9: the statement on whether a seal is that of bytes, walked. -/
import Derived.Test.YtbdbcjhahlofiaaDoorMacD
namespace Go.Proofs.YtbdbcjhahlofiaaDoor.mac
open Go.ChangeShapes Go.WideShapes Go.ChangeAt Go.RowKit kit byt dig
open oct

theorem str_same (a b : ByteArray) : (a.toList == b.toList) = decide (a = b) := by
  by_cases h : a = b
  · rw [decide_eq_true h, h, beq_self_eq_true]
  · rw [decide_eq_false h, beq_eq_false_iff_ne, ByteArray.toList_eq, ByteArray.toList_eq]
    intro e
    exact h (ByteArray.ext (Array.toList_inj.1 e))
end Go.Proofs.YtbdbcjhahlofiaaDoor.mac
