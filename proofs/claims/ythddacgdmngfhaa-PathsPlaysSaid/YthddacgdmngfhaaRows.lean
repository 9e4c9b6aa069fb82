/-
  No cell of these rows narrows 'for every input' (looked for: loops, veiled, ifaces, maps, wideKeys, modest, calm, conditions, laid).
  DERIVED. THE GIVEN ROWS OF THIS SEAT. 11 by the template 'for every input the law returns true; each argument reads behind the call as it read before'; 0 by the template 'total and deterministic' (their statements: YthddacgdmngfhaaTotals.lean).
  GIVEN WITH THE SEED: the statements are not yours to turn. If you find one false, say at which input.
  Laid BY PROGRAM, IN A SANDBOX (cutbox-rows.mjs): the forced cells as the released guide's own fill.sh prints them over the translation b4884546926696d9… (all of the seat's roots in one cut). By AI agents, Wed Nov 11 2026. No macro, syntax, notation, axiom, sorry.
-/
import Derived.Test.YthddacgdmngfhaaChecked
import GoSem.Claim
import GoSem.ClaimJoined
import GoSem.ClaimMapViews
import Derived.JoinedTies
import Derived.KernelRfl
namespace Go.Proofs.Ythddacgdmngfhaa
/- THE CELL 'sum', in the pinned program and in every row, IS THE sha256 OF THE DUMP (.gsa) THAT YthddacgdmngfhaaProg.lean LOADS. Nothing in Lean hashes anything: it is a label: what it is worth is what the hold of that sum in a sandbox is worth. -/
noncomputable def Try.pinned : Pinned := { name := "ythddacgdmngfhaa", sum := "b4884546926696d91078458b671ad0cc26a9544f87fecb25e6fa83df1a4d6018", checked := Try.checked }
namespace Rows
def none {H : Type} : Left H := { results := [], args := [] }

/-- 'crosswaylaw20.SendqPlays': WHATEVER THE INPUT: true; the input reads as it did. -/
def sendqPlaysSpec : ChangeSpec := { name := "sendqPlays", fn := fun _ => fun
  | [d1, d2] => { results := [.lit (.bool true)], args := [d1, d2] }
  | _ => none }
def sendqPlaysRow : OpenClaim := { program := "ythddacgdmngfhaa", sum := "b4884546926696d91078458b671ad0cc26a9544f87fecb25e6fa83df1a4d6018", func := "crossway/crosswaylaw20.SendqPlays", spec := "sendqPlays", plainKeys := false, apart := false }
def SendqPlaysSaid : Prop := sendqPlaysRow.holds Try.pinned (OpenSpec.ofChange sendqPlaysSpec)

/-- ITS FALSE NEIGHBOUR: 'it returns false'. Refute it at one input. -/
def sendqPlaysWrong : ChangeSpec := { name := "sendqPlays", fn := fun _ => fun
  | [d1, d2] => { results := [.lit (.bool false)], args := [d1, d2] }
  | _ => none }
def SendqPlaysWrongFalsely : Prop := sendqPlaysRow.holds Try.pinned (OpenSpec.ofChange sendqPlaysWrong)

/-- 'crosswaylaw40.FilerSends': WHATEVER THE INPUT: true; the input reads as it did. -/
def filerSendsSpec : ChangeSpec := { name := "filerSends", fn := fun _ => fun
  | [d1, d2] => { results := [.lit (.bool true)], args := [d1, d2] }
  | _ => none }
def filerSendsRow : OpenClaim := { program := "ythddacgdmngfhaa", sum := "b4884546926696d91078458b671ad0cc26a9544f87fecb25e6fa83df1a4d6018", func := "crossway/crosswaylaw40.FilerSends", spec := "filerSends", unfollowed := true, recurses := true, plainKeys := false, apart := false }
def FilerSendsSaid : Prop := filerSendsRow.holds Try.pinned (OpenSpec.ofChange filerSendsSpec)

/-- ITS FALSE NEIGHBOUR: 'it returns false'. Refute it at one input. -/
def filerSendsWrong : ChangeSpec := { name := "filerSends", fn := fun _ => fun
  | [d1, d2] => { results := [.lit (.bool false)], args := [d1, d2] }
  | _ => none }
def FilerSendsWrongFalsely : Prop := filerSendsRow.holds Try.pinned (OpenSpec.ofChange filerSendsWrong)

/-- 'crosswaylaw40.FilerTakes': WHATEVER THE INPUT: true; the input reads as it did. -/
def filerTakesSpec : ChangeSpec := { name := "filerTakes", fn := fun _ => fun
  | [d1, d2, d3] => { results := [.lit (.bool true)], args := [d1, d2, d3] }
  | _ => none }
def filerTakesRow : OpenClaim := { program := "ythddacgdmngfhaa", sum := "b4884546926696d91078458b671ad0cc26a9544f87fecb25e6fa83df1a4d6018", func := "crossway/crosswaylaw40.FilerTakes", spec := "filerTakes", unfollowed := true, recurses := true, plainKeys := false, apart := false }
def FilerTakesSaid : Prop := filerTakesRow.holds Try.pinned (OpenSpec.ofChange filerTakesSpec)

/-- ITS FALSE NEIGHBOUR: 'it returns false'. Refute it at one input. -/
def filerTakesWrong : ChangeSpec := { name := "filerTakes", fn := fun _ => fun
  | [d1, d2, d3] => { results := [.lit (.bool false)], args := [d1, d2, d3] }
  | _ => none }
def FilerTakesWrongFalsely : Prop := filerTakesRow.holds Try.pinned (OpenSpec.ofChange filerTakesWrong)

/-- 'crosswaylaw16.GapsPlays': WHATEVER THE INPUT: true; the input reads as it did. -/
def gapsPlaysSpec : ChangeSpec := { name := "gapsPlays", fn := fun _ => fun
  | [d1, d2, d3] => { results := [.lit (.bool true)], args := [d1, d2, d3] }
  | _ => none }
def gapsPlaysRow : OpenClaim := { program := "ythddacgdmngfhaa", sum := "b4884546926696d91078458b671ad0cc26a9544f87fecb25e6fa83df1a4d6018", func := "crossway/crosswaylaw16.GapsPlays", spec := "gapsPlays", inPlace := ["slices.overlaps[crossway/gaps.part]"], unfollowed := true, recurses := true, plainKeys := false, apart := false }
def GapsPlaysSaid : Prop := gapsPlaysRow.holds Try.pinned (OpenSpec.ofChange gapsPlaysSpec)

/-- ITS FALSE NEIGHBOUR: 'it returns false'. Refute it at one input. -/
def gapsPlaysWrong : ChangeSpec := { name := "gapsPlays", fn := fun _ => fun
  | [d1, d2, d3] => { results := [.lit (.bool false)], args := [d1, d2, d3] }
  | _ => none }
def GapsPlaysWrongFalsely : Prop := gapsPlaysRow.holds Try.pinned (OpenSpec.ofChange gapsPlaysWrong)

/-- 'crosswaylaw16.GapsOrder': WHATEVER THE INPUT: true; the input reads as it did. -/
def gapsOrderSpec : ChangeSpec := { name := "gapsOrder", fn := fun _ => fun
  | [d1, d2] => { results := [.lit (.bool true)], args := [d1, d2] }
  | _ => none }
def gapsOrderRow : OpenClaim := { program := "ythddacgdmngfhaa", sum := "b4884546926696d91078458b671ad0cc26a9544f87fecb25e6fa83df1a4d6018", func := "crossway/crosswaylaw16.GapsOrder", spec := "gapsOrder", inPlace := ["slices.overlaps[crossway/gaps.part]"], unfollowed := true, recurses := true, plainKeys := false, apart := false }
def GapsOrderSaid : Prop := gapsOrderRow.holds Try.pinned (OpenSpec.ofChange gapsOrderSpec)

/-- ITS FALSE NEIGHBOUR: 'it returns false'. Refute it at one input. -/
def gapsOrderWrong : ChangeSpec := { name := "gapsOrder", fn := fun _ => fun
  | [d1, d2] => { results := [.lit (.bool false)], args := [d1, d2] }
  | _ => none }
def GapsOrderWrongFalsely : Prop := gapsOrderRow.holds Try.pinned (OpenSpec.ofChange gapsOrderWrong)

/-- 'crosswaylaw18.DeliverPlays': WHATEVER THE INPUT: true; the input reads as it did. -/
def deliverPlaysSpec : ChangeSpec := { name := "deliverPlays", fn := fun _ => fun
  | [d1, d2] => { results := [.lit (.bool true)], args := [d1, d2] }
  | _ => none }
def deliverPlaysRow : OpenClaim := { program := "ythddacgdmngfhaa", sum := "b4884546926696d91078458b671ad0cc26a9544f87fecb25e6fa83df1a4d6018", func := "crossway/crosswaylaw18.DeliverPlays", spec := "deliverPlays", plainKeys := false, apart := false }
def DeliverPlaysSaid : Prop := deliverPlaysRow.holds Try.pinned (OpenSpec.ofChange deliverPlaysSpec)

/-- ITS FALSE NEIGHBOUR: 'it returns false'. Refute it at one input. -/
def deliverPlaysWrong : ChangeSpec := { name := "deliverPlays", fn := fun _ => fun
  | [d1, d2] => { results := [.lit (.bool false)], args := [d1, d2] }
  | _ => none }
def DeliverPlaysWrongFalsely : Prop := deliverPlaysRow.holds Try.pinned (OpenSpec.ofChange deliverPlaysWrong)

/-- 'crosswaylaw17.ReasmPlays': WHATEVER THE INPUT: true; the input reads as it did. -/
def reasmPlaysSpec : ChangeSpec := { name := "reasmPlays", fn := fun _ => fun
  | [d1, d2] => { results := [.lit (.bool true)], args := [d1, d2] }
  | _ => none }
def reasmPlaysRow : OpenClaim := { program := "ythddacgdmngfhaa", sum := "b4884546926696d91078458b671ad0cc26a9544f87fecb25e6fa83df1a4d6018", func := "crossway/crosswaylaw17.ReasmPlays", spec := "reasmPlays", inPlace := ["internal/abi.NoEscape"], plainKeys := false, apart := false }
def ReasmPlaysSaid : Prop := reasmPlaysRow.holds Try.pinned (OpenSpec.ofChange reasmPlaysSpec)

/-- ITS FALSE NEIGHBOUR: 'it returns false'. Refute it at one input. -/
def reasmPlaysWrong : ChangeSpec := { name := "reasmPlays", fn := fun _ => fun
  | [d1, d2] => { results := [.lit (.bool false)], args := [d1, d2] }
  | _ => none }
def ReasmPlaysWrongFalsely : Prop := reasmPlaysRow.holds Try.pinned (OpenSpec.ofChange reasmPlaysWrong)

/-- 'crosswaylaw15.PathsPlays': WHATEVER THE INPUT: true; the input reads as it did. -/
def pathsPlaysSpec : ChangeSpec := { name := "pathsPlays", fn := fun _ => fun
  | [d] => { results := [.lit (.bool true)], args := [d] }
  | _ => none }
def pathsPlaysRow : OpenClaim := { program := "ythddacgdmngfhaa", sum := "b4884546926696d91078458b671ad0cc26a9544f87fecb25e6fa83df1a4d6018", func := "crossway/crosswaylaw15.PathsPlays", spec := "pathsPlays", unfollowed := true, recurses := true, plainKeys := false, apart := false }
def PathsPlaysSaid : Prop := pathsPlaysRow.holds Try.pinned (OpenSpec.ofChange pathsPlaysSpec)

/-- ITS FALSE NEIGHBOUR: 'it returns false'. Refute it at one input. -/
def pathsPlaysWrong : ChangeSpec := { name := "pathsPlays", fn := fun _ => fun
  | [d] => { results := [.lit (.bool false)], args := [d] }
  | _ => none }
def PathsPlaysWrongFalsely : Prop := pathsPlaysRow.holds Try.pinned (OpenSpec.ofChange pathsPlaysWrong)

/-- 'crosswaylaw21.FlightFast': WHATEVER THE INPUT: true; the input reads as it did. -/
def flightFastSpec : ChangeSpec := { name := "flightFast", fn := fun _ => fun
  | [d1, d2] => { results := [.lit (.bool true)], args := [d1, d2] }
  | _ => none }
def flightFastRow : OpenClaim := { program := "ythddacgdmngfhaa", sum := "b4884546926696d91078458b671ad0cc26a9544f87fecb25e6fa83df1a4d6018", func := "crossway/crosswaylaw21.FlightFast", spec := "flightFast", unfollowed := true, recurses := true, plainKeys := false, apart := false }
def FlightFastSaid : Prop := flightFastRow.holds Try.pinned (OpenSpec.ofChange flightFastSpec)

/-- ITS FALSE NEIGHBOUR: 'it returns false'. Refute it at one input. -/
def flightFastWrong : ChangeSpec := { name := "flightFast", fn := fun _ => fun
  | [d1, d2] => { results := [.lit (.bool false)], args := [d1, d2] }
  | _ => none }
def FlightFastWrongFalsely : Prop := flightFastRow.holds Try.pinned (OpenSpec.ofChange flightFastWrong)

/-- 'crosswaylaw32.TopoChecks': WHATEVER THE INPUT: true; the input reads as it did. -/
def topoChecksSpec : ChangeSpec := { name := "topoChecks", fn := fun _ => fun
  | [d] => { results := [.lit (.bool true)], args := [d] }
  | _ => none }
def topoChecksRow : OpenClaim := { program := "ythddacgdmngfhaa", sum := "b4884546926696d91078458b671ad0cc26a9544f87fecb25e6fa83df1a4d6018", func := "crossway/crosswaylaw32.TopoChecks", spec := "topoChecks", unfollowed := true, recurses := true, plainKeys := false, apart := false }
def TopoChecksSaid : Prop := topoChecksRow.holds Try.pinned (OpenSpec.ofChange topoChecksSpec)

/-- ITS FALSE NEIGHBOUR: 'it returns false'. Refute it at one input. -/
def topoChecksWrong : ChangeSpec := { name := "topoChecks", fn := fun _ => fun
  | [d] => { results := [.lit (.bool false)], args := [d] }
  | _ => none }
def TopoChecksWrongFalsely : Prop := topoChecksRow.holds Try.pinned (OpenSpec.ofChange topoChecksWrong)

/-- 'crosswaylaw32.TopoFinds': WHATEVER THE INPUT: true; the input reads as it did. -/
def topoFindsSpec : ChangeSpec := { name := "topoFinds", fn := fun _ => fun
  | [d1, d2, d3] => { results := [.lit (.bool true)], args := [d1, d2, d3] }
  | _ => none }
def topoFindsRow : OpenClaim := { program := "ythddacgdmngfhaa", sum := "b4884546926696d91078458b671ad0cc26a9544f87fecb25e6fa83df1a4d6018", func := "crossway/crosswaylaw32.TopoFinds", spec := "topoFinds", unfollowed := true, recurses := true, plainKeys := false, apart := false }
def TopoFindsSaid : Prop := topoFindsRow.holds Try.pinned (OpenSpec.ofChange topoFindsSpec)

/-- ITS FALSE NEIGHBOUR: 'it returns false'. Refute it at one input. -/
def topoFindsWrong : ChangeSpec := { name := "topoFinds", fn := fun _ => fun
  | [d1, d2, d3] => { results := [.lit (.bool false)], args := [d1, d2, d3] }
  | _ => none }
def TopoFindsWrongFalsely : Prop := topoFindsRow.holds Try.pinned (OpenSpec.ofChange topoFindsWrong)

/- THE SECOND FORM. 'bulk': how many values and letters a reading holds, each counted each time it is reached (what is shared counts as often as it is met; a slice's spare places count too). A statement '..UptoSaid' is the law's where the arguments, and the package variables that the reading takes, are together of bulk at most 1048576: NARROWER than '..Said'. Prove '..Said' where nothing that the law and all that it calls make is longer than what came in: it says more and counts as full. Else prove '..UptoSaid'. A law counts once. -/
mutual
def uptoBulk {H : Type} : DataW H → Nat
  | .lit (.string bytes) => bytes.length + 1
  | .lit _ => 1
  | .nil => 1
  | .ptr d => uptoBulk d + 1
  | .slice elems spare => uptoBulkAll elems + uptoBulkAll spare + 1
  | .agg parts => uptoBulkAll parts + 1
  | .iface _ d => uptoBulk d + 1
  | .map entries => uptoBulkEntries entries + 1
  | .held _ => 1
def uptoBulkAll {H : Type} : List (DataW H) → Nat
  | [] => 0
  | d :: r => uptoBulk d + uptoBulkAll r
def uptoBulkEntries {H : Type} : List (Lit × DataW H) → Nat
  | [] => 0
  | x :: r => uptoBulkEntry x + uptoBulkEntries r
def uptoBulkEntry {H : Type} : Lit × DataW H → Nat
  | (.string bytes, d) => bytes.length + uptoBulk d + 1
  | (_, d) => uptoBulk d + 1
 end
def uptoSmall : (H : Type) → List (DataW H) → Bool := fun _ ds => decide (uptoBulkAll ds ≤ 1048576)
def OpenSpec.upto (s : _root_.Go.ChangeSpec) : _root_.Go.OpenSpec := { _root_.Go.OpenSpec.ofChange s with cond := some uptoSmall }

/-- 'crosswaylaw20.SendqPlays', WHERE WHAT IT READS IS OF BULK AT MOST 1048576: true; the input reads as it did. -/
def sendqPlaysUptoRow : OpenClaim := { program := "ythddacgdmngfhaa", sum := "b4884546926696d91078458b671ad0cc26a9544f87fecb25e6fa83df1a4d6018", func := "crossway/crosswaylaw20.SendqPlays", spec := "sendqPlays", plainKeys := false, apart := false, narrowed := true }
def SendqPlaysUptoSaid : Prop := sendqPlaysUptoRow.holds Try.pinned (OpenSpec.upto sendqPlaysSpec)

/-- 'crosswaylaw40.FilerSends', WHERE WHAT IT READS IS OF BULK AT MOST 1048576: true; the input reads as it did. -/
def filerSendsUptoRow : OpenClaim := { program := "ythddacgdmngfhaa", sum := "b4884546926696d91078458b671ad0cc26a9544f87fecb25e6fa83df1a4d6018", func := "crossway/crosswaylaw40.FilerSends", spec := "filerSends", unfollowed := true, recurses := true, plainKeys := false, apart := false, narrowed := true }
def FilerSendsUptoSaid : Prop := filerSendsUptoRow.holds Try.pinned (OpenSpec.upto filerSendsSpec)

/-- 'crosswaylaw40.FilerTakes', WHERE WHAT IT READS IS OF BULK AT MOST 1048576: true; the input reads as it did. -/
def filerTakesUptoRow : OpenClaim := { program := "ythddacgdmngfhaa", sum := "b4884546926696d91078458b671ad0cc26a9544f87fecb25e6fa83df1a4d6018", func := "crossway/crosswaylaw40.FilerTakes", spec := "filerTakes", unfollowed := true, recurses := true, plainKeys := false, apart := false, narrowed := true }
def FilerTakesUptoSaid : Prop := filerTakesUptoRow.holds Try.pinned (OpenSpec.upto filerTakesSpec)

/-- 'crosswaylaw16.GapsPlays', WHERE WHAT IT READS IS OF BULK AT MOST 1048576: true; the input reads as it did. -/
def gapsPlaysUptoRow : OpenClaim := { program := "ythddacgdmngfhaa", sum := "b4884546926696d91078458b671ad0cc26a9544f87fecb25e6fa83df1a4d6018", func := "crossway/crosswaylaw16.GapsPlays", spec := "gapsPlays", inPlace := ["slices.overlaps[crossway/gaps.part]"], unfollowed := true, recurses := true, plainKeys := false, apart := false, narrowed := true }
def GapsPlaysUptoSaid : Prop := gapsPlaysUptoRow.holds Try.pinned (OpenSpec.upto gapsPlaysSpec)

/-- 'crosswaylaw16.GapsOrder', WHERE WHAT IT READS IS OF BULK AT MOST 1048576: true; the input reads as it did. -/
def gapsOrderUptoRow : OpenClaim := { program := "ythddacgdmngfhaa", sum := "b4884546926696d91078458b671ad0cc26a9544f87fecb25e6fa83df1a4d6018", func := "crossway/crosswaylaw16.GapsOrder", spec := "gapsOrder", inPlace := ["slices.overlaps[crossway/gaps.part]"], unfollowed := true, recurses := true, plainKeys := false, apart := false, narrowed := true }
def GapsOrderUptoSaid : Prop := gapsOrderUptoRow.holds Try.pinned (OpenSpec.upto gapsOrderSpec)

/-- 'crosswaylaw18.DeliverPlays', WHERE WHAT IT READS IS OF BULK AT MOST 1048576: true; the input reads as it did. -/
def deliverPlaysUptoRow : OpenClaim := { program := "ythddacgdmngfhaa", sum := "b4884546926696d91078458b671ad0cc26a9544f87fecb25e6fa83df1a4d6018", func := "crossway/crosswaylaw18.DeliverPlays", spec := "deliverPlays", plainKeys := false, apart := false, narrowed := true }
def DeliverPlaysUptoSaid : Prop := deliverPlaysUptoRow.holds Try.pinned (OpenSpec.upto deliverPlaysSpec)

/-- 'crosswaylaw17.ReasmPlays', WHERE WHAT IT READS IS OF BULK AT MOST 1048576: true; the input reads as it did. -/
def reasmPlaysUptoRow : OpenClaim := { program := "ythddacgdmngfhaa", sum := "b4884546926696d91078458b671ad0cc26a9544f87fecb25e6fa83df1a4d6018", func := "crossway/crosswaylaw17.ReasmPlays", spec := "reasmPlays", inPlace := ["internal/abi.NoEscape"], plainKeys := false, apart := false, narrowed := true }
def ReasmPlaysUptoSaid : Prop := reasmPlaysUptoRow.holds Try.pinned (OpenSpec.upto reasmPlaysSpec)

/-- 'crosswaylaw15.PathsPlays', WHERE WHAT IT READS IS OF BULK AT MOST 1048576: true; the input reads as it did. -/
def pathsPlaysUptoRow : OpenClaim := { program := "ythddacgdmngfhaa", sum := "b4884546926696d91078458b671ad0cc26a9544f87fecb25e6fa83df1a4d6018", func := "crossway/crosswaylaw15.PathsPlays", spec := "pathsPlays", unfollowed := true, recurses := true, plainKeys := false, apart := false, narrowed := true }
def PathsPlaysUptoSaid : Prop := pathsPlaysUptoRow.holds Try.pinned (OpenSpec.upto pathsPlaysSpec)

/-- 'crosswaylaw21.FlightFast', WHERE WHAT IT READS IS OF BULK AT MOST 1048576: true; the input reads as it did. -/
def flightFastUptoRow : OpenClaim := { program := "ythddacgdmngfhaa", sum := "b4884546926696d91078458b671ad0cc26a9544f87fecb25e6fa83df1a4d6018", func := "crossway/crosswaylaw21.FlightFast", spec := "flightFast", unfollowed := true, recurses := true, plainKeys := false, apart := false, narrowed := true }
def FlightFastUptoSaid : Prop := flightFastUptoRow.holds Try.pinned (OpenSpec.upto flightFastSpec)

/-- 'crosswaylaw32.TopoChecks', WHERE WHAT IT READS IS OF BULK AT MOST 1048576: true; the input reads as it did. -/
def topoChecksUptoRow : OpenClaim := { program := "ythddacgdmngfhaa", sum := "b4884546926696d91078458b671ad0cc26a9544f87fecb25e6fa83df1a4d6018", func := "crossway/crosswaylaw32.TopoChecks", spec := "topoChecks", unfollowed := true, recurses := true, plainKeys := false, apart := false, narrowed := true }
def TopoChecksUptoSaid : Prop := topoChecksUptoRow.holds Try.pinned (OpenSpec.upto topoChecksSpec)

/-- 'crosswaylaw32.TopoFinds', WHERE WHAT IT READS IS OF BULK AT MOST 1048576: true; the input reads as it did. -/
def topoFindsUptoRow : OpenClaim := { program := "ythddacgdmngfhaa", sum := "b4884546926696d91078458b671ad0cc26a9544f87fecb25e6fa83df1a4d6018", func := "crossway/crosswaylaw32.TopoFinds", spec := "topoFinds", unfollowed := true, recurses := true, plainKeys := false, apart := false, narrowed := true }
def TopoFindsUptoSaid : Prop := topoFindsUptoRow.holds Try.pinned (OpenSpec.upto topoFindsSpec)

end Rows
end Go.Proofs.Ythddacgdmngfhaa
