/- Nothing of the shelf is wanted here. -/
import Derived.Test.YthddacgdmngfhaaProg
import Derived.Lib.Repeat
import Derived.Lib.Strings
namespace Go.Proofs.Ythddacgdmngfhaa.shelf
theorem nothing : True := trivial
end Go.Proofs.Ythddacgdmngfhaa.shelf
