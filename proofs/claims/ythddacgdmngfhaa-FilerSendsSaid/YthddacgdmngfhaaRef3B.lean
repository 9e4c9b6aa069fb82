/- The document's own reader, each function by a contract. -/
import Derived.Test.YthddacgdmngfhaaRef3
import Derived.RegionTactic
import Derived.BigRegion
namespace Go.Proofs.Ythddacgdmngfhaa.oct
open Go.ChangeShapes Go.WideShapes Go.ChangeAt Go.RowKit kit

def rfS (S : ByteArray) (e : Int) : ByteArray := if e = 0 then ByteArray.empty else S
def rfE (e x : Int) : Int := if e = 0 then x else e

def tkS (S : ByteArray) (e n : Int) : ByteArray := if e ≠ 0 then S else if 0 ≤ n ∧ n ≤ S.size then S.extract n.toNat S.size else ByteArray.empty
def tkE (S : ByteArray) (e n : Int) : Int := if e ≠ 0 then e else if 0 ≤ n ∧ n ≤ S.size then 0 else 2
def tkR (S : ByteArray) (e n : Int) : ByteArray := if e ≠ 0 then ByteArray.empty else if 0 ≤ n ∧ n ≤ S.size then S.extract 0 n.toNat else ByteArray.empty

end Go.Proofs.Ythddacgdmngfhaa.oct
