/- The document's filling up, and the statement on it. -/
import Derived.Test.YthddacgdmngfhaaRef3B
import Derived.LoopTactic
namespace Go.Proofs.Ythddacgdmngfhaa.oct
open Go.ChangeShapes Go.WideShapes Go.ChangeAt Go.RowKit kit

def strLen : Value → Nat
  | .string s => s.size
  | _ => 0
theorem zeros_snoc (s : ByteArray) (k : Nat) : s ++ zeros k ++ (⟨#[0]⟩ : ByteArray) = s ++ zeros (k + 1) := by
  apply ByteArray.ext
  unfold zeros strOfNums
  apply Array.toList_inj.mp
  simp [List.replicate_succ']

end Go.Proofs.Ythddacgdmngfhaa.oct
