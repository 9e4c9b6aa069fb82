/- Layer 4: a parameter's bytes, an address; each by a contract. -/
import Derived.Test.YtdocphkpeonldaaPre
import Derived.Test.YtdocphkpeonldaaRef3C
import Derived.Outline
import Derived.BigQuiet
namespace Go.Proofs.Ytdocphkpeonldaa.par
open Go.ChangeShapes Go.WideShapes Go.ChangeAt Go.RowKit kit oct
set_option maxRecDepth 100000

/-- May a parameter be? -/
def mayP (t : Int) (s : ByteArray) : Bool := decide (0 ≤ t ∧ t ≤ 65535 ∧ s.size ≤ 1000)
theorem mayP_yes {t : Int} {s : ByteArray} (a : 0 ≤ t) (b : t ≤ 65535) (c : s.size ≤ 1000) : mayP t s = true := by unfold mayP; simp [a, b, c]
theorem mayP_no {t : Int} {s : ByteArray} (h : ¬ (0 ≤ t ∧ t ≤ 65535 ∧ s.size ≤ 1000)) : mayP t s = false := by unfold mayP; simpa using h

/-- A parameter's bytes. -/
def putP (t : Int) (s : ByteArray) : ByteArray := if mayP t s = true then filled (p2 t ++ p2 ((s.size : Int) + 4) ++ s) else ByteArray.empty

end Go.Proofs.Ytdocphkpeonldaa.par
