/-
  No cell of these rows narrows 'for every input' (looked for: loops, veiled, ifaces, maps, wideKeys, modest, calm, conditions, laid).
  DERIVED. THE GIVEN ROWS OF THIS SEAT. 12 by the template 'for every input the law returns true; each argument reads behind the call as it read before'; 0 by the template 'total and deterministic' (their statements: YtdjdgccomefoaaaTotals.lean).
  GIVEN WITH THE SEED: the statements are not yours to turn. If you find one false, say at which input.
  Laid BY PROGRAM, IN A SANDBOX (cutbox-rows.mjs): the forced cells as the released guide's own fill.sh prints them over the translation 72bd84ec6ae880ab… (all of the seat's roots in one cut). By AI agents, Wed Nov 11 2026. No macro, syntax, notation, axiom, sorry.
-/
import Derived.Test.YtdjdgccomefoaaaChecked
import GoSem.Claim
import GoSem.ClaimJoined
import GoSem.ClaimMapViews
import Derived.JoinedTies
import Derived.KernelRfl
namespace Go.Proofs.Ytdjdgccomefoaaa
/- THE CELL 'sum', in the pinned program and in every row, IS THE sha256 OF THE DUMP (.gsa) THAT YtdjdgccomefoaaaProg.lean LOADS. Nothing in Lean hashes anything: it is a label: what it is worth is what the hold of that sum in a sandbox is worth. -/
noncomputable def Try.pinned : Pinned := { name := "ytdjdgccomefoaaa", sum := "72bd84ec6ae880abb40d3a2695b84acbf809578b3cad327c260f60c2da7f47d0", checked := Try.checked }
namespace Rows
def none {H : Type} : Left H := { results := [], args := [] }

/-- 'crosswaylaw38.AuditTables': WHATEVER THE INPUT: true; the input reads as it did. -/
def auditTablesSpec : ChangeSpec := { name := "auditTables", fn := fun _ => fun
  | [d1, d2] => { results := [.lit (.bool true)], args := [d1, d2] }
  | _ => none }
def auditTablesRow : OpenClaim := { program := "ytdjdgccomefoaaa", sum := "72bd84ec6ae880abb40d3a2695b84acbf809578b3cad327c260f60c2da7f47d0", func := "crossway/crosswaylaw38.AuditTables", spec := "auditTables", plainKeys := false, apart := false }
def AuditTablesSaid : Prop := auditTablesRow.holds Try.pinned (OpenSpec.ofChange auditTablesSpec)

/-- ITS FALSE NEIGHBOUR: 'it returns false'. Refute it at one input. -/
def auditTablesWrong : ChangeSpec := { name := "auditTables", fn := fun _ => fun
  | [d1, d2] => { results := [.lit (.bool false)], args := [d1, d2] }
  | _ => none }
def AuditTablesWrongFalsely : Prop := auditTablesRow.holds Try.pinned (OpenSpec.ofChange auditTablesWrong)

/-- 'crosswaylaw21.FlightNone': WHATEVER THE INPUT: true; the input reads as it did. -/
def flightNoneSpec : ChangeSpec := { name := "flightNone", fn := fun _ => fun
  | [d1, d2] => { results := [.lit (.bool true)], args := [d1, d2] }
  | _ => none }
def flightNoneRow : OpenClaim := { program := "ytdjdgccomefoaaa", sum := "72bd84ec6ae880abb40d3a2695b84acbf809578b3cad327c260f60c2da7f47d0", func := "crossway/crosswaylaw21.FlightNone", spec := "flightNone", unfollowed := true, recurses := true, plainKeys := false, apart := false }
def FlightNoneSaid : Prop := flightNoneRow.holds Try.pinned (OpenSpec.ofChange flightNoneSpec)

/-- ITS FALSE NEIGHBOUR: 'it returns false'. Refute it at one input. -/
def flightNoneWrong : ChangeSpec := { name := "flightNone", fn := fun _ => fun
  | [d1, d2] => { results := [.lit (.bool false)], args := [d1, d2] }
  | _ => none }
def FlightNoneWrongFalsely : Prop := flightNoneRow.holds Try.pinned (OpenSpec.ofChange flightNoneWrong)

/-- 'crosswaylaw40.FilerNone': WHATEVER THE INPUT: true; the input reads as it did. -/
def filerNoneSpec : ChangeSpec := { name := "filerNone", fn := fun _ => fun
  | [d1, d2] => { results := [.lit (.bool true)], args := [d1, d2] }
  | _ => none }
def filerNoneRow : OpenClaim := { program := "ytdjdgccomefoaaa", sum := "72bd84ec6ae880abb40d3a2695b84acbf809578b3cad327c260f60c2da7f47d0", func := "crossway/crosswaylaw40.FilerNone", spec := "filerNone", unfollowed := true, recurses := true, plainKeys := false, apart := false }
def FilerNoneSaid : Prop := filerNoneRow.holds Try.pinned (OpenSpec.ofChange filerNoneSpec)

/-- ITS FALSE NEIGHBOUR: 'it returns false'. Refute it at one input. -/
def filerNoneWrong : ChangeSpec := { name := "filerNone", fn := fun _ => fun
  | [d1, d2] => { results := [.lit (.bool false)], args := [d1, d2] }
  | _ => none }
def FilerNoneWrongFalsely : Prop := filerNoneRow.holds Try.pinned (OpenSpec.ofChange filerNoneWrong)

/-- 'crosswaylaw40.FilerReads': WHATEVER THE INPUT: true; the input reads as it did. -/
def filerReadsSpec : ChangeSpec := { name := "filerReads", fn := fun _ => fun
  | [d1, d2, d3] => { results := [.lit (.bool true)], args := [d1, d2, d3] }
  | _ => none }
def filerReadsRow : OpenClaim := { program := "ytdjdgccomefoaaa", sum := "72bd84ec6ae880abb40d3a2695b84acbf809578b3cad327c260f60c2da7f47d0", func := "crossway/crosswaylaw40.FilerReads", spec := "filerReads", unfollowed := true, recurses := true, plainKeys := false, apart := false }
def FilerReadsSaid : Prop := filerReadsRow.holds Try.pinned (OpenSpec.ofChange filerReadsSpec)

/-- ITS FALSE NEIGHBOUR: 'it returns false'. Refute it at one input. -/
def filerReadsWrong : ChangeSpec := { name := "filerReads", fn := fun _ => fun
  | [d1, d2, d3] => { results := [.lit (.bool false)], args := [d1, d2, d3] }
  | _ => none }
def FilerReadsWrongFalsely : Prop := filerReadsRow.holds Try.pinned (OpenSpec.ofChange filerReadsWrong)

/-- 'crosswaylaw32.TopoChecks': WHATEVER THE INPUT: true; the input reads as it did. -/
def topoChecksSpec : ChangeSpec := { name := "topoChecks", fn := fun _ => fun
  | [d] => { results := [.lit (.bool true)], args := [d] }
  | _ => none }
def topoChecksRow : OpenClaim := { program := "ytdjdgccomefoaaa", sum := "72bd84ec6ae880abb40d3a2695b84acbf809578b3cad327c260f60c2da7f47d0", func := "crossway/crosswaylaw32.TopoChecks", spec := "topoChecks", unfollowed := true, recurses := true, plainKeys := false, apart := false }
def TopoChecksSaid : Prop := topoChecksRow.holds Try.pinned (OpenSpec.ofChange topoChecksSpec)

/-- ITS FALSE NEIGHBOUR: 'it returns false'. Refute it at one input. -/
def topoChecksWrong : ChangeSpec := { name := "topoChecks", fn := fun _ => fun
  | [d] => { results := [.lit (.bool false)], args := [d] }
  | _ => none }
def TopoChecksWrongFalsely : Prop := topoChecksRow.holds Try.pinned (OpenSpec.ofChange topoChecksWrong)

/-- 'crosswaylaw32.TopoFinds': WHATEVER THE INPUT: true; the input reads as it did. -/
def topoFindsSpec : ChangeSpec := { name := "topoFinds", fn := fun _ => fun
  | [d1, d2, d3] => { results := [.lit (.bool true)], args := [d1, d2, d3] }
  | _ => none }
def topoFindsRow : OpenClaim := { program := "ytdjdgccomefoaaa", sum := "72bd84ec6ae880abb40d3a2695b84acbf809578b3cad327c260f60c2da7f47d0", func := "crossway/crosswaylaw32.TopoFinds", spec := "topoFinds", unfollowed := true, recurses := true, plainKeys := false, apart := false }
def TopoFindsSaid : Prop := topoFindsRow.holds Try.pinned (OpenSpec.ofChange topoFindsSpec)

/-- ITS FALSE NEIGHBOUR: 'it returns false'. Refute it at one input. -/
def topoFindsWrong : ChangeSpec := { name := "topoFinds", fn := fun _ => fun
  | [d1, d2, d3] => { results := [.lit (.bool false)], args := [d1, d2, d3] }
  | _ => none }
def TopoFindsWrongFalsely : Prop := topoFindsRow.holds Try.pinned (OpenSpec.ofChange topoFindsWrong)

/-- 'crosswaylaw24.StrangeParams': WHATEVER THE INPUT: true; the input reads as it did. -/
def strangeParamsSpec : ChangeSpec := { name := "strangeParams", fn := fun _ => fun
  | [d] => { results := [.lit (.bool true)], args := [d] }
  | _ => none }
def strangeParamsRow : OpenClaim := { program := "ytdjdgccomefoaaa", sum := "72bd84ec6ae880abb40d3a2695b84acbf809578b3cad327c260f60c2da7f47d0", func := "crossway/crosswaylaw24.StrangeParams", spec := "strangeParams", inPlace := ["internal/abi.NoEscape", "internal/bytealg.MakeNoZero"], recurses := true, plainKeys := false, apart := false }
def StrangeParamsSaid : Prop := strangeParamsRow.holds Try.pinned (OpenSpec.ofChange strangeParamsSpec)

/-- ITS FALSE NEIGHBOUR: 'it returns false'. Refute it at one input. -/
def strangeParamsWrong : ChangeSpec := { name := "strangeParams", fn := fun _ => fun
  | [d] => { results := [.lit (.bool false)], args := [d] }
  | _ => none }
def StrangeParamsWrongFalsely : Prop := strangeParamsRow.holds Try.pinned (OpenSpec.ofChange strangeParamsWrong)

/-- 'crosswaylaw36.TraceReads': WHATEVER THE INPUT: true; the input reads as it did. -/
def traceReadsSpec : ChangeSpec := { name := "traceReads", fn := fun _ => fun
  | [d] => { results := [.lit (.bool true)], args := [d] }
  | _ => none }
def traceReadsRow : OpenClaim := { program := "ytdjdgccomefoaaa", sum := "72bd84ec6ae880abb40d3a2695b84acbf809578b3cad327c260f60c2da7f47d0", func := "crossway/crosswaylaw36.TraceReads", spec := "traceReads", inPlace := ["internal/abi.NoEscape"], unfollowed := true, recurses := true, plainKeys := false, apart := false }
def TraceReadsSaid : Prop := traceReadsRow.holds Try.pinned (OpenSpec.ofChange traceReadsSpec)

/-- ITS FALSE NEIGHBOUR: 'it returns false'. Refute it at one input. -/
def traceReadsWrong : ChangeSpec := { name := "traceReads", fn := fun _ => fun
  | [d] => { results := [.lit (.bool false)], args := [d] }
  | _ => none }
def TraceReadsWrongFalsely : Prop := traceReadsRow.holds Try.pinned (OpenSpec.ofChange traceReadsWrong)

/-- 'crosswaylaw31.NetPlays': WHATEVER THE INPUT: true; the input reads as it did. -/
def netPlaysSpec : ChangeSpec := { name := "netPlays", fn := fun _ => fun
  | [d] => { results := [.lit (.bool true)], args := [d] }
  | _ => none }
def netPlaysRow : OpenClaim := { program := "ytdjdgccomefoaaa", sum := "72bd84ec6ae880abb40d3a2695b84acbf809578b3cad327c260f60c2da7f47d0", func := "crossway/crosswaylaw31.NetPlays", spec := "netPlays", plainKeys := false, apart := false }
def NetPlaysSaid : Prop := netPlaysRow.holds Try.pinned (OpenSpec.ofChange netPlaysSpec)

/-- ITS FALSE NEIGHBOUR: 'it returns false'. Refute it at one input. -/
def netPlaysWrong : ChangeSpec := { name := "netPlays", fn := fun _ => fun
  | [d] => { results := [.lit (.bool false)], args := [d] }
  | _ => none }
def NetPlaysWrongFalsely : Prop := netPlaysRow.holds Try.pinned (OpenSpec.ofChange netPlaysWrong)

/-- 'crosswaylaw16.GapsPlays': WHATEVER THE INPUT: true; the input reads as it did. -/
def gapsPlaysSpec : ChangeSpec := { name := "gapsPlays", fn := fun _ => fun
  | [d1, d2, d3] => { results := [.lit (.bool true)], args := [d1, d2, d3] }
  | _ => none }
def gapsPlaysRow : OpenClaim := { program := "ytdjdgccomefoaaa", sum := "72bd84ec6ae880abb40d3a2695b84acbf809578b3cad327c260f60c2da7f47d0", func := "crossway/crosswaylaw16.GapsPlays", spec := "gapsPlays", inPlace := ["slices.overlaps[crossway/gaps.part]"], unfollowed := true, recurses := true, plainKeys := false, apart := false }
def GapsPlaysSaid : Prop := gapsPlaysRow.holds Try.pinned (OpenSpec.ofChange gapsPlaysSpec)

/-- ITS FALSE NEIGHBOUR: 'it returns false'. Refute it at one input. -/
def gapsPlaysWrong : ChangeSpec := { name := "gapsPlays", fn := fun _ => fun
  | [d1, d2, d3] => { results := [.lit (.bool false)], args := [d1, d2, d3] }
  | _ => none }
def GapsPlaysWrongFalsely : Prop := gapsPlaysRow.holds Try.pinned (OpenSpec.ofChange gapsPlaysWrong)

/-- 'crosswaylaw16.GapsOrder': WHATEVER THE INPUT: true; the input reads as it did. -/
def gapsOrderSpec : ChangeSpec := { name := "gapsOrder", fn := fun _ => fun
  | [d1, d2] => { results := [.lit (.bool true)], args := [d1, d2] }
  | _ => none }
def gapsOrderRow : OpenClaim := { program := "ytdjdgccomefoaaa", sum := "72bd84ec6ae880abb40d3a2695b84acbf809578b3cad327c260f60c2da7f47d0", func := "crossway/crosswaylaw16.GapsOrder", spec := "gapsOrder", inPlace := ["slices.overlaps[crossway/gaps.part]"], unfollowed := true, recurses := true, plainKeys := false, apart := false }
def GapsOrderSaid : Prop := gapsOrderRow.holds Try.pinned (OpenSpec.ofChange gapsOrderSpec)

/-- ITS FALSE NEIGHBOUR: 'it returns false'. Refute it at one input. -/
def gapsOrderWrong : ChangeSpec := { name := "gapsOrder", fn := fun _ => fun
  | [d1, d2] => { results := [.lit (.bool false)], args := [d1, d2] }
  | _ => none }
def GapsOrderWrongFalsely : Prop := gapsOrderRow.holds Try.pinned (OpenSpec.ofChange gapsOrderWrong)

/-- 'crosswaylaw28.ReconfParams': WHATEVER THE INPUT: true; the input reads as it did. -/
def reconfParamsSpec : ChangeSpec := { name := "reconfParams", fn := fun _ => fun
  | [d1, d2, d3] => { results := [.lit (.bool true)], args := [d1, d2, d3] }
  | _ => none }
def reconfParamsRow : OpenClaim := { program := "ytdjdgccomefoaaa", sum := "72bd84ec6ae880abb40d3a2695b84acbf809578b3cad327c260f60c2da7f47d0", func := "crossway/crosswaylaw28.ReconfParams", spec := "reconfParams", inPlace := ["internal/abi.NoEscape", "internal/bytealg.MakeNoZero"], unfollowed := true, recurses := true, plainKeys := false, apart := false }
def ReconfParamsSaid : Prop := reconfParamsRow.holds Try.pinned (OpenSpec.ofChange reconfParamsSpec)

/-- ITS FALSE NEIGHBOUR: 'it returns false'. Refute it at one input. -/
def reconfParamsWrong : ChangeSpec := { name := "reconfParams", fn := fun _ => fun
  | [d1, d2, d3] => { results := [.lit (.bool false)], args := [d1, d2, d3] }
  | _ => none }
def ReconfParamsWrongFalsely : Prop := reconfParamsRow.holds Try.pinned (OpenSpec.ofChange reconfParamsWrong)

/- THE SECOND FORM. 'bulk': how many values and letters a reading holds, each counted each time it is reached (what is shared counts as often as it is met; a slice's spare places count too). A statement '..UptoSaid' is the law's where the arguments, and the package variables that the reading takes, are together of bulk at most 1048576: NARROWER than '..Said'. Prove '..Said' where nothing that the law and all that it calls make is longer than what came in: it says more and counts as full. Else prove '..UptoSaid'. A law counts once. -/
mutual
def uptoBulk {H : Type} : DataW H → Nat
  | .lit (.string bytes) => bytes.length + 1
  | .lit _ => 1
  | .nil => 1
  | .ptr d => uptoBulk d + 1
  | .slice elems spare => uptoBulkAll elems + uptoBulkAll spare + 1
  | .agg parts => uptoBulkAll parts + 1
  | .iface _ d => uptoBulk d + 1
  | .map entries => uptoBulkEntries entries + 1
  | .held _ => 1
def uptoBulkAll {H : Type} : List (DataW H) → Nat
  | [] => 0
  | d :: r => uptoBulk d + uptoBulkAll r
def uptoBulkEntries {H : Type} : List (Lit × DataW H) → Nat
  | [] => 0
  | x :: r => uptoBulkEntry x + uptoBulkEntries r
def uptoBulkEntry {H : Type} : Lit × DataW H → Nat
  | (.string bytes, d) => bytes.length + uptoBulk d + 1
  | (_, d) => uptoBulk d + 1
 end
def uptoSmall : (H : Type) → List (DataW H) → Bool := fun _ ds => decide (uptoBulkAll ds ≤ 1048576)
def OpenSpec.upto (s : _root_.Go.ChangeSpec) : _root_.Go.OpenSpec := { _root_.Go.OpenSpec.ofChange s with cond := some uptoSmall }

/-- 'crosswaylaw38.AuditTables', WHERE WHAT IT READS IS OF BULK AT MOST 1048576: true; the input reads as it did. -/
def auditTablesUptoRow : OpenClaim := { program := "ytdjdgccomefoaaa", sum := "72bd84ec6ae880abb40d3a2695b84acbf809578b3cad327c260f60c2da7f47d0", func := "crossway/crosswaylaw38.AuditTables", spec := "auditTables", plainKeys := false, apart := false, narrowed := true }
def AuditTablesUptoSaid : Prop := auditTablesUptoRow.holds Try.pinned (OpenSpec.upto auditTablesSpec)

/-- 'crosswaylaw21.FlightNone', WHERE WHAT IT READS IS OF BULK AT MOST 1048576: true; the input reads as it did. -/
def flightNoneUptoRow : OpenClaim := { program := "ytdjdgccomefoaaa", sum := "72bd84ec6ae880abb40d3a2695b84acbf809578b3cad327c260f60c2da7f47d0", func := "crossway/crosswaylaw21.FlightNone", spec := "flightNone", unfollowed := true, recurses := true, plainKeys := false, apart := false, narrowed := true }
def FlightNoneUptoSaid : Prop := flightNoneUptoRow.holds Try.pinned (OpenSpec.upto flightNoneSpec)

/-- 'crosswaylaw40.FilerNone', WHERE WHAT IT READS IS OF BULK AT MOST 1048576: true; the input reads as it did. -/
def filerNoneUptoRow : OpenClaim := { program := "ytdjdgccomefoaaa", sum := "72bd84ec6ae880abb40d3a2695b84acbf809578b3cad327c260f60c2da7f47d0", func := "crossway/crosswaylaw40.FilerNone", spec := "filerNone", unfollowed := true, recurses := true, plainKeys := false, apart := false, narrowed := true }
def FilerNoneUptoSaid : Prop := filerNoneUptoRow.holds Try.pinned (OpenSpec.upto filerNoneSpec)

/-- 'crosswaylaw40.FilerReads', WHERE WHAT IT READS IS OF BULK AT MOST 1048576: true; the input reads as it did. -/
def filerReadsUptoRow : OpenClaim := { program := "ytdjdgccomefoaaa", sum := "72bd84ec6ae880abb40d3a2695b84acbf809578b3cad327c260f60c2da7f47d0", func := "crossway/crosswaylaw40.FilerReads", spec := "filerReads", unfollowed := true, recurses := true, plainKeys := false, apart := false, narrowed := true }
def FilerReadsUptoSaid : Prop := filerReadsUptoRow.holds Try.pinned (OpenSpec.upto filerReadsSpec)

/-- 'crosswaylaw32.TopoChecks', WHERE WHAT IT READS IS OF BULK AT MOST 1048576: true; the input reads as it did. -/
def topoChecksUptoRow : OpenClaim := { program := "ytdjdgccomefoaaa", sum := "72bd84ec6ae880abb40d3a2695b84acbf809578b3cad327c260f60c2da7f47d0", func := "crossway/crosswaylaw32.TopoChecks", spec := "topoChecks", unfollowed := true, recurses := true, plainKeys := false, apart := false, narrowed := true }
def TopoChecksUptoSaid : Prop := topoChecksUptoRow.holds Try.pinned (OpenSpec.upto topoChecksSpec)

/-- 'crosswaylaw32.TopoFinds', WHERE WHAT IT READS IS OF BULK AT MOST 1048576: true; the input reads as it did. -/
def topoFindsUptoRow : OpenClaim := { program := "ytdjdgccomefoaaa", sum := "72bd84ec6ae880abb40d3a2695b84acbf809578b3cad327c260f60c2da7f47d0", func := "crossway/crosswaylaw32.TopoFinds", spec := "topoFinds", unfollowed := true, recurses := true, plainKeys := false, apart := false, narrowed := true }
def TopoFindsUptoSaid : Prop := topoFindsUptoRow.holds Try.pinned (OpenSpec.upto topoFindsSpec)

/-- 'crosswaylaw24.StrangeParams', WHERE WHAT IT READS IS OF BULK AT MOST 1048576: true; the input reads as it did. -/
def strangeParamsUptoRow : OpenClaim := { program := "ytdjdgccomefoaaa", sum := "72bd84ec6ae880abb40d3a2695b84acbf809578b3cad327c260f60c2da7f47d0", func := "crossway/crosswaylaw24.StrangeParams", spec := "strangeParams", inPlace := ["internal/abi.NoEscape", "internal/bytealg.MakeNoZero"], recurses := true, plainKeys := false, apart := false, narrowed := true }
def StrangeParamsUptoSaid : Prop := strangeParamsUptoRow.holds Try.pinned (OpenSpec.upto strangeParamsSpec)

/-- 'crosswaylaw36.TraceReads', WHERE WHAT IT READS IS OF BULK AT MOST 1048576: true; the input reads as it did. -/
def traceReadsUptoRow : OpenClaim := { program := "ytdjdgccomefoaaa", sum := "72bd84ec6ae880abb40d3a2695b84acbf809578b3cad327c260f60c2da7f47d0", func := "crossway/crosswaylaw36.TraceReads", spec := "traceReads", inPlace := ["internal/abi.NoEscape"], unfollowed := true, recurses := true, plainKeys := false, apart := false, narrowed := true }
def TraceReadsUptoSaid : Prop := traceReadsUptoRow.holds Try.pinned (OpenSpec.upto traceReadsSpec)

/-- 'crosswaylaw31.NetPlays', WHERE WHAT IT READS IS OF BULK AT MOST 1048576: true; the input reads as it did. -/
def netPlaysUptoRow : OpenClaim := { program := "ytdjdgccomefoaaa", sum := "72bd84ec6ae880abb40d3a2695b84acbf809578b3cad327c260f60c2da7f47d0", func := "crossway/crosswaylaw31.NetPlays", spec := "netPlays", plainKeys := false, apart := false, narrowed := true }
def NetPlaysUptoSaid : Prop := netPlaysUptoRow.holds Try.pinned (OpenSpec.upto netPlaysSpec)

/-- 'crosswaylaw16.GapsPlays', WHERE WHAT IT READS IS OF BULK AT MOST 1048576: true; the input reads as it did. -/
def gapsPlaysUptoRow : OpenClaim := { program := "ytdjdgccomefoaaa", sum := "72bd84ec6ae880abb40d3a2695b84acbf809578b3cad327c260f60c2da7f47d0", func := "crossway/crosswaylaw16.GapsPlays", spec := "gapsPlays", inPlace := ["slices.overlaps[crossway/gaps.part]"], unfollowed := true, recurses := true, plainKeys := false, apart := false, narrowed := true }
def GapsPlaysUptoSaid : Prop := gapsPlaysUptoRow.holds Try.pinned (OpenSpec.upto gapsPlaysSpec)

/-- 'crosswaylaw16.GapsOrder', WHERE WHAT IT READS IS OF BULK AT MOST 1048576: true; the input reads as it did. -/
def gapsOrderUptoRow : OpenClaim := { program := "ytdjdgccomefoaaa", sum := "72bd84ec6ae880abb40d3a2695b84acbf809578b3cad327c260f60c2da7f47d0", func := "crossway/crosswaylaw16.GapsOrder", spec := "gapsOrder", inPlace := ["slices.overlaps[crossway/gaps.part]"], unfollowed := true, recurses := true, plainKeys := false, apart := false, narrowed := true }
def GapsOrderUptoSaid : Prop := gapsOrderUptoRow.holds Try.pinned (OpenSpec.upto gapsOrderSpec)

/-- 'crosswaylaw28.ReconfParams', WHERE WHAT IT READS IS OF BULK AT MOST 1048576: true; the input reads as it did. -/
def reconfParamsUptoRow : OpenClaim := { program := "ytdjdgccomefoaaa", sum := "72bd84ec6ae880abb40d3a2695b84acbf809578b3cad327c260f60c2da7f47d0", func := "crossway/crosswaylaw28.ReconfParams", spec := "reconfParams", inPlace := ["internal/abi.NoEscape", "internal/bytealg.MakeNoZero"], unfollowed := true, recurses := true, plainKeys := false, apart := false, narrowed := true }
def ReconfParamsUptoSaid : Prop := reconfParamsUptoRow.holds Try.pinned (OpenSpec.upto reconfParamsSpec)

end Rows
end Go.Proofs.Ytdjdgccomefoaaa
