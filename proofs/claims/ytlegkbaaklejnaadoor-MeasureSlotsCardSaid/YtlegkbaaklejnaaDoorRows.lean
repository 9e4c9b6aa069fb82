/-
  NARROWER THAN 'FOR EVERY INPUT', by the rows' own cells (each row's printed sentence says how): CrccOf: laid · CrccSeals: laid · CrccBits: laid · DigestOf: laid · DigestLong: laid · MacOf: laid · MacIs: laid · MacBytes: laid · MeasureSlots: laid.
  DERIVED. THE GIVEN ROWS OF THIS SEAT. 9 by the template 'for every input the law returns true; each argument reads behind the call as it read before'; 0 by the template 'total and deterministic' (their statements: YtlegkbaaklejnaaDoorTotals.lean).
  GIVEN WITH THE SEED: the statements are not yours to turn. If you find one false, say at which input.
  Laid BY PROGRAM, IN A SANDBOX (cutbox-rows.mjs): the forced cells as the released guide's own fill.sh prints them over the translation f34680634f9368e6… (all of the seat's roots in one cut). By AI agents, Wed Nov 11 2026. No macro, syntax, notation, axiom, sorry.
-/
import Derived.Test.YtlegkbaaklejnaaDoorChecked
import GoSem.Claim
import GoSem.ClaimJoined
import GoSem.ClaimMapViews
import Derived.JoinedTies
import Derived.KernelRfl
namespace Go.Proofs.YtlegkbaaklejnaaDoor
/- THE CELL 'sum', in the pinned program and in every row, IS THE sha256 OF THE DUMP (.gsa) THAT YtlegkbaaklejnaaDoorProg.lean LOADS. Nothing in Lean hashes anything: it is a label: what it is worth is what the hold of that sum in a sandbox is worth. -/
noncomputable def Tryd.pinned : Pinned := { name := "ytlegkbaaklejnaadoor", sum := "f34680634f9368e6716f85052a5d242ef0bc8a8251df541c5f7ca662a107691a", checked := Tryd.checked }
namespace Rows
def none {H : Type} : Left H := { results := [], args := [] }

/- WHAT THE LISTED PACKAGE-LEVEL VARIABLES READ AS WHEN THE CALL BEGINS. Each datum BY PROGRAM (the guide's laid-datum.mjs) off the statement by which the dump's own 'gosem.cut.vars' lays the variable. In a bare row this is a premise. The card (YtlegkbaaklejnaaDoorCards.lean) ties it to the program's text. -/
def laid_crossway_crcc_halves {H : Type} : DataW H := .agg [.lit (.int .u32 0), .lit (.int .u32 274646895), .lit (.int .u32 549293790), .lit (.int .u32 820201905), .lit (.int .u32 1098587580), .lit (.int .u32 1361435347), .lit (.int .u32 1640403810), .lit (.int .u32 1905808397), .lit (.int .u32 2197175160), .lit (.int .u32 2460548119), .lit (.int .u32 2722870694), .lit (.int .u32 2987750089), .lit (.int .u32 3280807620), .lit (.int .u32 3553878443), .lit (.int .u32 3811616794), .lit (.int .u32 4084100981)]
def laid_crossway_digest_starts {H : Type} : DataW H := .agg [.lit (.int .u32 1732584193), .lit (.int .u32 4023233417), .lit (.int .u32 2562383102), .lit (.int .u32 271733878), .lit (.int .u32 3285377520)]
def laid_crossway_digest_added {H : Type} : DataW H := .agg [.lit (.int .u32 1518500249), .lit (.int .u32 1859775393), .lit (.int .u32 2400959708), .lit (.int .u32 3395469782)]

/-- 'crosswaylaw02.CrccOf': WHATEVER THE INPUT: true; the input reads as it did. -/
def crccOfSpec : ChangeSpec := { name := "crccOf", fn := fun _ => fun
  | [d] => { results := [.lit (.bool true)], args := [d] }
  | _ => none }
def crccOfRow : OpenClaim := { program := "ytlegkbaaklejnaadoor", sum := "f34680634f9368e6716f85052a5d242ef0bc8a8251df541c5f7ca662a107691a", func := "crossway/crosswaylaw02.CrccOf", spec := "crccOf", named := ["crossway/crcc.halves"], apart := false, laid := [("crossway/crcc.halves", laid_crossway_crcc_halves)] }
def CrccOfSaid : Prop := crccOfRow.holds Tryd.pinned (OpenSpec.ofChange crccOfSpec)

/-- ITS FALSE NEIGHBOUR: 'it returns false'. Refute it at one input. -/
def crccOfWrong : ChangeSpec := { name := "crccOf", fn := fun _ => fun
  | [d] => { results := [.lit (.bool false)], args := [d] }
  | _ => none }
def CrccOfWrongFalsely : Prop := crccOfRow.holds Tryd.pinned (OpenSpec.ofChange crccOfWrong)

/-- 'crosswaylaw02.CrccSeals': WHATEVER THE INPUT: true; the input reads as it did. -/
def crccSealsSpec : ChangeSpec := { name := "crccSeals", fn := fun _ => fun
  | [d1, d2] => { results := [.lit (.bool true)], args := [d1, d2] }
  | _ => none }
def crccSealsRow : OpenClaim := { program := "ytlegkbaaklejnaadoor", sum := "f34680634f9368e6716f85052a5d242ef0bc8a8251df541c5f7ca662a107691a", func := "crossway/crosswaylaw02.CrccSeals", spec := "crccSeals", named := ["crossway/crcc.halves"], apart := false, laid := [("crossway/crcc.halves", laid_crossway_crcc_halves)] }
def CrccSealsSaid : Prop := crccSealsRow.holds Tryd.pinned (OpenSpec.ofChange crccSealsSpec)

/-- ITS FALSE NEIGHBOUR: 'it returns false'. Refute it at one input. -/
def crccSealsWrong : ChangeSpec := { name := "crccSeals", fn := fun _ => fun
  | [d1, d2] => { results := [.lit (.bool false)], args := [d1, d2] }
  | _ => none }
def CrccSealsWrongFalsely : Prop := crccSealsRow.holds Tryd.pinned (OpenSpec.ofChange crccSealsWrong)

/-- 'crosswaylaw02.CrccBits': WHATEVER THE INPUT: true; the input reads as it did. -/
def crccBitsSpec : ChangeSpec := { name := "crccBits", fn := fun _ => fun
  | [d1, d2, d3] => { results := [.lit (.bool true)], args := [d1, d2, d3] }
  | _ => none }
def crccBitsRow : OpenClaim := { program := "ytlegkbaaklejnaadoor", sum := "f34680634f9368e6716f85052a5d242ef0bc8a8251df541c5f7ca662a107691a", func := "crossway/crosswaylaw02.CrccBits", spec := "crccBits", named := ["crossway/crcc.halves"], apart := false, laid := [("crossway/crcc.halves", laid_crossway_crcc_halves)] }
def CrccBitsSaid : Prop := crccBitsRow.holds Tryd.pinned (OpenSpec.ofChange crccBitsSpec)

/-- ITS FALSE NEIGHBOUR: 'it returns false'. Refute it at one input. -/
def crccBitsWrong : ChangeSpec := { name := "crccBits", fn := fun _ => fun
  | [d1, d2, d3] => { results := [.lit (.bool false)], args := [d1, d2, d3] }
  | _ => none }
def CrccBitsWrongFalsely : Prop := crccBitsRow.holds Tryd.pinned (OpenSpec.ofChange crccBitsWrong)

/-- 'crosswaylaw08.DigestOf': WHATEVER THE INPUT: true; the input reads as it did. -/
def digestOfSpec : ChangeSpec := { name := "digestOf", fn := fun _ => fun
  | [d] => { results := [.lit (.bool true)], args := [d] }
  | _ => none }
def digestOfRow : OpenClaim := { program := "ytlegkbaaklejnaadoor", sum := "f34680634f9368e6716f85052a5d242ef0bc8a8251df541c5f7ca662a107691a", func := "crossway/crosswaylaw08.DigestOf", spec := "digestOf", inPlace := ["internal/abi.NoEscape", "internal/bytealg.MakeNoZero"], recurses := true, named := ["crossway/digest.starts", "crossway/digest.added"], apart := false, laid := [("crossway/digest.starts", laid_crossway_digest_starts), ("crossway/digest.added", laid_crossway_digest_added)] }
def DigestOfSaid : Prop := digestOfRow.holds Tryd.pinned (OpenSpec.ofChange digestOfSpec)

/-- ITS FALSE NEIGHBOUR: 'it returns false'. Refute it at one input. -/
def digestOfWrong : ChangeSpec := { name := "digestOf", fn := fun _ => fun
  | [d] => { results := [.lit (.bool false)], args := [d] }
  | _ => none }
def DigestOfWrongFalsely : Prop := digestOfRow.holds Tryd.pinned (OpenSpec.ofChange digestOfWrong)

/-- 'crosswaylaw08.DigestLong': WHATEVER THE INPUT: true; the input reads as it did. -/
def digestLongSpec : ChangeSpec := { name := "digestLong", fn := fun _ => fun
  | [d1, d2] => { results := [.lit (.bool true)], args := [d1, d2] }
  | _ => none }
def digestLongRow : OpenClaim := { program := "ytlegkbaaklejnaadoor", sum := "f34680634f9368e6716f85052a5d242ef0bc8a8251df541c5f7ca662a107691a", func := "crossway/crosswaylaw08.DigestLong", spec := "digestLong", inPlace := ["internal/abi.NoEscape", "internal/bytealg.MakeNoZero"], recurses := true, named := ["crossway/digest.starts", "crossway/digest.added"], apart := false, laid := [("crossway/digest.starts", laid_crossway_digest_starts), ("crossway/digest.added", laid_crossway_digest_added)] }
def DigestLongSaid : Prop := digestLongRow.holds Tryd.pinned (OpenSpec.ofChange digestLongSpec)

/-- ITS FALSE NEIGHBOUR: 'it returns false'. Refute it at one input. -/
def digestLongWrong : ChangeSpec := { name := "digestLong", fn := fun _ => fun
  | [d1, d2] => { results := [.lit (.bool false)], args := [d1, d2] }
  | _ => none }
def DigestLongWrongFalsely : Prop := digestLongRow.holds Tryd.pinned (OpenSpec.ofChange digestLongWrong)

/-- 'crosswaylaw09.MacOf': WHATEVER THE INPUT: true; the input reads as it did. -/
def macOfSpec : ChangeSpec := { name := "macOf", fn := fun _ => fun
  | [d1, d2] => { results := [.lit (.bool true)], args := [d1, d2] }
  | _ => none }
def macOfRow : OpenClaim := { program := "ytlegkbaaklejnaadoor", sum := "f34680634f9368e6716f85052a5d242ef0bc8a8251df541c5f7ca662a107691a", func := "crossway/crosswaylaw09.MacOf", spec := "macOf", inPlace := ["internal/abi.NoEscape", "internal/bytealg.MakeNoZero"], recurses := true, named := ["crossway/digest.starts", "crossway/digest.added"], apart := false, laid := [("crossway/digest.starts", laid_crossway_digest_starts), ("crossway/digest.added", laid_crossway_digest_added)] }
def MacOfSaid : Prop := macOfRow.holds Tryd.pinned (OpenSpec.ofChange macOfSpec)

/-- ITS FALSE NEIGHBOUR: 'it returns false'. Refute it at one input. -/
def macOfWrong : ChangeSpec := { name := "macOf", fn := fun _ => fun
  | [d1, d2] => { results := [.lit (.bool false)], args := [d1, d2] }
  | _ => none }
def MacOfWrongFalsely : Prop := macOfRow.holds Tryd.pinned (OpenSpec.ofChange macOfWrong)

/-- 'crosswaylaw09.MacIs': WHATEVER THE INPUT: true; the input reads as it did. -/
def macIsSpec : ChangeSpec := { name := "macIs", fn := fun _ => fun
  | [d1, d2, d3] => { results := [.lit (.bool true)], args := [d1, d2, d3] }
  | _ => none }
def macIsRow : OpenClaim := { program := "ytlegkbaaklejnaadoor", sum := "f34680634f9368e6716f85052a5d242ef0bc8a8251df541c5f7ca662a107691a", func := "crossway/crosswaylaw09.MacIs", spec := "macIs", inPlace := ["internal/abi.NoEscape", "internal/bytealg.MakeNoZero"], recurses := true, named := ["crossway/digest.starts", "crossway/digest.added"], apart := false, laid := [("crossway/digest.starts", laid_crossway_digest_starts), ("crossway/digest.added", laid_crossway_digest_added)] }
def MacIsSaid : Prop := macIsRow.holds Tryd.pinned (OpenSpec.ofChange macIsSpec)

/-- ITS FALSE NEIGHBOUR: 'it returns false'. Refute it at one input. -/
def macIsWrong : ChangeSpec := { name := "macIs", fn := fun _ => fun
  | [d1, d2, d3] => { results := [.lit (.bool false)], args := [d1, d2, d3] }
  | _ => none }
def MacIsWrongFalsely : Prop := macIsRow.holds Tryd.pinned (OpenSpec.ofChange macIsWrong)

/-- 'crosswaylaw09.MacBytes': WHATEVER THE INPUT: true; the input reads as it did. -/
def macBytesSpec : ChangeSpec := { name := "macBytes", fn := fun _ => fun
  | [d1, d2, d3] => { results := [.lit (.bool true)], args := [d1, d2, d3] }
  | _ => none }
def macBytesRow : OpenClaim := { program := "ytlegkbaaklejnaadoor", sum := "f34680634f9368e6716f85052a5d242ef0bc8a8251df541c5f7ca662a107691a", func := "crossway/crosswaylaw09.MacBytes", spec := "macBytes", inPlace := ["internal/abi.NoEscape", "internal/bytealg.MakeNoZero"], named := ["crossway/digest.starts", "crossway/digest.added"], apart := false, laid := [("crossway/digest.starts", laid_crossway_digest_starts), ("crossway/digest.added", laid_crossway_digest_added)] }
def MacBytesSaid : Prop := macBytesRow.holds Tryd.pinned (OpenSpec.ofChange macBytesSpec)

/-- ITS FALSE NEIGHBOUR: 'it returns false'. Refute it at one input. -/
def macBytesWrong : ChangeSpec := { name := "macBytes", fn := fun _ => fun
  | [d1, d2, d3] => { results := [.lit (.bool false)], args := [d1, d2, d3] }
  | _ => none }
def MacBytesWrongFalsely : Prop := macBytesRow.holds Tryd.pinned (OpenSpec.ofChange macBytesWrong)

/-- 'crosswaylaw41.MeasureSlots': WHATEVER THE INPUT: true; the input reads as it did. -/
def measureSlotsSpec : ChangeSpec := { name := "measureSlots", fn := fun _ => fun
  | [d] => { results := [.lit (.bool true)], args := [d] }
  | _ => none }
def measureSlotsRow : OpenClaim := { program := "ytlegkbaaklejnaadoor", sum := "f34680634f9368e6716f85052a5d242ef0bc8a8251df541c5f7ca662a107691a", func := "crossway/crosswaylaw41.MeasureSlots", spec := "measureSlots", inPlace := ["internal/abi.NoEscape", "internal/bytealg.MakeNoZero"], unfollowed := true, recurses := true, named := ["crossway/crcc.halves"], apart := false, laid := [("crossway/crcc.halves", laid_crossway_crcc_halves)] }
def MeasureSlotsSaid : Prop := measureSlotsRow.holds Tryd.pinned (OpenSpec.ofChange measureSlotsSpec)

/-- ITS FALSE NEIGHBOUR: 'it returns false'. Refute it at one input. -/
def measureSlotsWrong : ChangeSpec := { name := "measureSlots", fn := fun _ => fun
  | [d] => { results := [.lit (.bool false)], args := [d] }
  | _ => none }
def MeasureSlotsWrongFalsely : Prop := measureSlotsRow.holds Tryd.pinned (OpenSpec.ofChange measureSlotsWrong)

/- THE SECOND FORM. 'bulk': how many values and letters a reading holds, each counted each time it is reached (what is shared counts as often as it is met; a slice's spare places count too). A statement '..UptoSaid' is the law's where the arguments, and the package variables that the reading takes, are together of bulk at most 1048576: NARROWER than '..Said'. Prove '..Said' where nothing that the law and all that it calls make is longer than what came in: it says more and counts as full. Else prove '..UptoSaid'. A law counts once. -/
mutual
def uptoBulk {H : Type} : DataW H → Nat
  | .lit (.string bytes) => bytes.length + 1
  | .lit _ => 1
  | .nil => 1
  | .ptr d => uptoBulk d + 1
  | .slice elems spare => uptoBulkAll elems + uptoBulkAll spare + 1
  | .agg parts => uptoBulkAll parts + 1
  | .iface _ d => uptoBulk d + 1
  | .map entries => uptoBulkEntries entries + 1
  | .held _ => 1
def uptoBulkAll {H : Type} : List (DataW H) → Nat
  | [] => 0
  | d :: r => uptoBulk d + uptoBulkAll r
def uptoBulkEntries {H : Type} : List (Lit × DataW H) → Nat
  | [] => 0
  | x :: r => uptoBulkEntry x + uptoBulkEntries r
def uptoBulkEntry {H : Type} : Lit × DataW H → Nat
  | (.string bytes, d) => bytes.length + uptoBulk d + 1
  | (_, d) => uptoBulk d + 1
 end
def uptoSmall : (H : Type) → List (DataW H) → Bool := fun _ ds => decide (uptoBulkAll ds ≤ 1048576)
def OpenSpec.upto (s : _root_.Go.ChangeSpec) : _root_.Go.OpenSpec := { _root_.Go.OpenSpec.ofChange s with cond := some uptoSmall }

/-- 'crosswaylaw02.CrccOf', WHERE WHAT IT READS IS OF BULK AT MOST 1048576: true; the input reads as it did. -/
def crccOfUptoRow : OpenClaim := { program := "ytlegkbaaklejnaadoor", sum := "f34680634f9368e6716f85052a5d242ef0bc8a8251df541c5f7ca662a107691a", func := "crossway/crosswaylaw02.CrccOf", spec := "crccOf", named := ["crossway/crcc.halves"], apart := false, laid := [("crossway/crcc.halves", laid_crossway_crcc_halves)], narrowed := true }
def CrccOfUptoSaid : Prop := crccOfUptoRow.holds Tryd.pinned (OpenSpec.upto crccOfSpec)

/-- 'crosswaylaw02.CrccSeals', WHERE WHAT IT READS IS OF BULK AT MOST 1048576: true; the input reads as it did. -/
def crccSealsUptoRow : OpenClaim := { program := "ytlegkbaaklejnaadoor", sum := "f34680634f9368e6716f85052a5d242ef0bc8a8251df541c5f7ca662a107691a", func := "crossway/crosswaylaw02.CrccSeals", spec := "crccSeals", named := ["crossway/crcc.halves"], apart := false, laid := [("crossway/crcc.halves", laid_crossway_crcc_halves)], narrowed := true }
def CrccSealsUptoSaid : Prop := crccSealsUptoRow.holds Tryd.pinned (OpenSpec.upto crccSealsSpec)

/-- 'crosswaylaw02.CrccBits', WHERE WHAT IT READS IS OF BULK AT MOST 1048576: true; the input reads as it did. -/
def crccBitsUptoRow : OpenClaim := { program := "ytlegkbaaklejnaadoor", sum := "f34680634f9368e6716f85052a5d242ef0bc8a8251df541c5f7ca662a107691a", func := "crossway/crosswaylaw02.CrccBits", spec := "crccBits", named := ["crossway/crcc.halves"], apart := false, laid := [("crossway/crcc.halves", laid_crossway_crcc_halves)], narrowed := true }
def CrccBitsUptoSaid : Prop := crccBitsUptoRow.holds Tryd.pinned (OpenSpec.upto crccBitsSpec)

/-- 'crosswaylaw08.DigestOf', WHERE WHAT IT READS IS OF BULK AT MOST 1048576: true; the input reads as it did. -/
def digestOfUptoRow : OpenClaim := { program := "ytlegkbaaklejnaadoor", sum := "f34680634f9368e6716f85052a5d242ef0bc8a8251df541c5f7ca662a107691a", func := "crossway/crosswaylaw08.DigestOf", spec := "digestOf", inPlace := ["internal/abi.NoEscape", "internal/bytealg.MakeNoZero"], recurses := true, named := ["crossway/digest.starts", "crossway/digest.added"], apart := false, laid := [("crossway/digest.starts", laid_crossway_digest_starts), ("crossway/digest.added", laid_crossway_digest_added)], narrowed := true }
def DigestOfUptoSaid : Prop := digestOfUptoRow.holds Tryd.pinned (OpenSpec.upto digestOfSpec)

/-- 'crosswaylaw08.DigestLong', WHERE WHAT IT READS IS OF BULK AT MOST 1048576: true; the input reads as it did. -/
def digestLongUptoRow : OpenClaim := { program := "ytlegkbaaklejnaadoor", sum := "f34680634f9368e6716f85052a5d242ef0bc8a8251df541c5f7ca662a107691a", func := "crossway/crosswaylaw08.DigestLong", spec := "digestLong", inPlace := ["internal/abi.NoEscape", "internal/bytealg.MakeNoZero"], recurses := true, named := ["crossway/digest.starts", "crossway/digest.added"], apart := false, laid := [("crossway/digest.starts", laid_crossway_digest_starts), ("crossway/digest.added", laid_crossway_digest_added)], narrowed := true }
def DigestLongUptoSaid : Prop := digestLongUptoRow.holds Tryd.pinned (OpenSpec.upto digestLongSpec)

/-- 'crosswaylaw09.MacOf', WHERE WHAT IT READS IS OF BULK AT MOST 1048576: true; the input reads as it did. -/
def macOfUptoRow : OpenClaim := { program := "ytlegkbaaklejnaadoor", sum := "f34680634f9368e6716f85052a5d242ef0bc8a8251df541c5f7ca662a107691a", func := "crossway/crosswaylaw09.MacOf", spec := "macOf", inPlace := ["internal/abi.NoEscape", "internal/bytealg.MakeNoZero"], recurses := true, named := ["crossway/digest.starts", "crossway/digest.added"], apart := false, laid := [("crossway/digest.starts", laid_crossway_digest_starts), ("crossway/digest.added", laid_crossway_digest_added)], narrowed := true }
def MacOfUptoSaid : Prop := macOfUptoRow.holds Tryd.pinned (OpenSpec.upto macOfSpec)

/-- 'crosswaylaw09.MacIs', WHERE WHAT IT READS IS OF BULK AT MOST 1048576: true; the input reads as it did. -/
def macIsUptoRow : OpenClaim := { program := "ytlegkbaaklejnaadoor", sum := "f34680634f9368e6716f85052a5d242ef0bc8a8251df541c5f7ca662a107691a", func := "crossway/crosswaylaw09.MacIs", spec := "macIs", inPlace := ["internal/abi.NoEscape", "internal/bytealg.MakeNoZero"], recurses := true, named := ["crossway/digest.starts", "crossway/digest.added"], apart := false, laid := [("crossway/digest.starts", laid_crossway_digest_starts), ("crossway/digest.added", laid_crossway_digest_added)], narrowed := true }
def MacIsUptoSaid : Prop := macIsUptoRow.holds Tryd.pinned (OpenSpec.upto macIsSpec)

/-- 'crosswaylaw09.MacBytes', WHERE WHAT IT READS IS OF BULK AT MOST 1048576: true; the input reads as it did. -/
def macBytesUptoRow : OpenClaim := { program := "ytlegkbaaklejnaadoor", sum := "f34680634f9368e6716f85052a5d242ef0bc8a8251df541c5f7ca662a107691a", func := "crossway/crosswaylaw09.MacBytes", spec := "macBytes", inPlace := ["internal/abi.NoEscape", "internal/bytealg.MakeNoZero"], named := ["crossway/digest.starts", "crossway/digest.added"], apart := false, laid := [("crossway/digest.starts", laid_crossway_digest_starts), ("crossway/digest.added", laid_crossway_digest_added)], narrowed := true }
def MacBytesUptoSaid : Prop := macBytesUptoRow.holds Tryd.pinned (OpenSpec.upto macBytesSpec)

/-- 'crosswaylaw41.MeasureSlots', WHERE WHAT IT READS IS OF BULK AT MOST 1048576: true; the input reads as it did. -/
def measureSlotsUptoRow : OpenClaim := { program := "ytlegkbaaklejnaadoor", sum := "f34680634f9368e6716f85052a5d242ef0bc8a8251df541c5f7ca662a107691a", func := "crossway/crosswaylaw41.MeasureSlots", spec := "measureSlots", inPlace := ["internal/abi.NoEscape", "internal/bytealg.MakeNoZero"], unfollowed := true, recurses := true, named := ["crossway/crcc.halves"], apart := false, laid := [("crossway/crcc.halves", laid_crossway_crcc_halves)], narrowed := true }
def MeasureSlotsUptoSaid : Prop := measureSlotsUptoRow.holds Tryd.pinned (OpenSpec.upto measureSlotsSpec)

end Rows
end Go.Proofs.YtlegkbaaklejnaaDoor
