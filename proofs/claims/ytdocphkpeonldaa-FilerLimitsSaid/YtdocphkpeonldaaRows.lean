/-
  No cell of these rows narrows 'for every input' (looked for: loops, veiled, ifaces, maps, wideKeys, modest, calm, conditions, laid).
  DERIVED. THE GIVEN ROWS OF THIS SEAT. 12 by the template 'for every input the law returns true; each argument reads behind the call as it read before'; 0 by the template 'total and deterministic' (their statements: YtdocphkpeonldaaTotals.lean).
  GIVEN WITH THE SEED: the statements are not yours to turn. If you find one false, say at which input.
  Laid BY PROGRAM, IN A SANDBOX (cutbox-rows.mjs): the forced cells as the released guide's own fill.sh prints them over the translation a05989d72efc2d82… (all of the seat's roots in one cut). By AI agents, Wed Nov 11 2026. No macro, syntax, notation, axiom, sorry.
-/
import Derived.Test.YtdocphkpeonldaaChecked
import GoSem.Claim
import GoSem.ClaimJoined
import GoSem.ClaimMapViews
import Derived.JoinedTies
import Derived.KernelRfl
namespace Go.Proofs.Ytdocphkpeonldaa
/- THE CELL 'sum', in the pinned program and in every row, IS THE sha256 OF THE DUMP (.gsa) THAT YtdocphkpeonldaaProg.lean LOADS. Nothing in Lean hashes anything: it is a label: what it is worth is what the hold of that sum in a sandbox is worth. -/
noncomputable def Try.pinned : Pinned := { name := "ytdocphkpeonldaa", sum := "a05989d72efc2d82f9614da7cf5d914c9a59f9ea62880bd81e570e6c280997c0", checked := Try.checked }
namespace Rows
def none {H : Type} : Left H := { results := [], args := [] }

/-- 'crosswaylaw28.ReconfParams': WHATEVER THE INPUT: true; the input reads as it did. -/
def reconfParamsSpec : ChangeSpec := { name := "reconfParams", fn := fun _ => fun
  | [d1, d2, d3] => { results := [.lit (.bool true)], args := [d1, d2, d3] }
  | _ => none }
def reconfParamsRow : OpenClaim := { program := "ytdocphkpeonldaa", sum := "a05989d72efc2d82f9614da7cf5d914c9a59f9ea62880bd81e570e6c280997c0", func := "crossway/crosswaylaw28.ReconfParams", spec := "reconfParams", inPlace := ["internal/abi.NoEscape", "internal/bytealg.MakeNoZero"], unfollowed := true, recurses := true, plainKeys := false, apart := false }
def ReconfParamsSaid : Prop := reconfParamsRow.holds Try.pinned (OpenSpec.ofChange reconfParamsSpec)

/-- ITS FALSE NEIGHBOUR: 'it returns false'. Refute it at one input. -/
def reconfParamsWrong : ChangeSpec := { name := "reconfParams", fn := fun _ => fun
  | [d1, d2, d3] => { results := [.lit (.bool false)], args := [d1, d2, d3] }
  | _ => none }
def ReconfParamsWrongFalsely : Prop := reconfParamsRow.holds Try.pinned (OpenSpec.ofChange reconfParamsWrong)

/-- 'crosswaylaw28.ReconfAsks': WHATEVER THE INPUT: true; the input reads as it did. -/
def reconfAsksSpec : ChangeSpec := { name := "reconfAsks", fn := fun _ => fun
  | [d1, d2] => { results := [.lit (.bool true)], args := [d1, d2] }
  | _ => none }
def reconfAsksRow : OpenClaim := { program := "ytdocphkpeonldaa", sum := "a05989d72efc2d82f9614da7cf5d914c9a59f9ea62880bd81e570e6c280997c0", func := "crossway/crosswaylaw28.ReconfAsks", spec := "reconfAsks", inPlace := ["internal/abi.NoEscape", "internal/bytealg.MakeNoZero"], unfollowed := true, recurses := true, plainKeys := false, apart := false }
def ReconfAsksSaid : Prop := reconfAsksRow.holds Try.pinned (OpenSpec.ofChange reconfAsksSpec)

/-- ITS FALSE NEIGHBOUR: 'it returns false'. Refute it at one input. -/
def reconfAsksWrong : ChangeSpec := { name := "reconfAsks", fn := fun _ => fun
  | [d1, d2] => { results := [.lit (.bool false)], args := [d1, d2] }
  | _ => none }
def ReconfAsksWrongFalsely : Prop := reconfAsksRow.holds Try.pinned (OpenSpec.ofChange reconfAsksWrong)

/-- 'crosswaylaw28.ReconfAnswers': WHATEVER THE INPUT: true; the input reads as it did. -/
def reconfAnswersSpec : ChangeSpec := { name := "reconfAnswers", fn := fun _ => fun
  | [d1, d2, d3] => { results := [.lit (.bool true)], args := [d1, d2, d3] }
  | _ => none }
def reconfAnswersRow : OpenClaim := { program := "ytdocphkpeonldaa", sum := "a05989d72efc2d82f9614da7cf5d914c9a59f9ea62880bd81e570e6c280997c0", func := "crossway/crosswaylaw28.ReconfAnswers", spec := "reconfAnswers", inPlace := ["internal/abi.NoEscape", "internal/bytealg.MakeNoZero"], unfollowed := true, recurses := true, plainKeys := false, apart := false }
def ReconfAnswersSaid : Prop := reconfAnswersRow.holds Try.pinned (OpenSpec.ofChange reconfAnswersSpec)

/-- ITS FALSE NEIGHBOUR: 'it returns false'. Refute it at one input. -/
def reconfAnswersWrong : ChangeSpec := { name := "reconfAnswers", fn := fun _ => fun
  | [d1, d2, d3] => { results := [.lit (.bool false)], args := [d1, d2, d3] }
  | _ => none }
def ReconfAnswersWrongFalsely : Prop := reconfAnswersRow.holds Try.pinned (OpenSpec.ofChange reconfAnswersWrong)

/-- 'crosswaylaw42.StormCalm': WHATEVER THE INPUT: true; the input reads as it did. -/
def stormCalmSpec : ChangeSpec := { name := "stormCalm", fn := fun _ => fun
  | [d1, d2] => { results := [.lit (.bool true)], args := [d1, d2] }
  | _ => none }
def stormCalmRow : OpenClaim := { program := "ytdocphkpeonldaa", sum := "a05989d72efc2d82f9614da7cf5d914c9a59f9ea62880bd81e570e6c280997c0", func := "crossway/crosswaylaw42.StormCalm", spec := "stormCalm", plainKeys := false, apart := false }
def StormCalmSaid : Prop := stormCalmRow.holds Try.pinned (OpenSpec.ofChange stormCalmSpec)

/-- ITS FALSE NEIGHBOUR: 'it returns false'. Refute it at one input. -/
def stormCalmWrong : ChangeSpec := { name := "stormCalm", fn := fun _ => fun
  | [d1, d2] => { results := [.lit (.bool false)], args := [d1, d2] }
  | _ => none }
def StormCalmWrongFalsely : Prop := stormCalmRow.holds Try.pinned (OpenSpec.ofChange stormCalmWrong)

/-- 'crosswaylaw42.StormFair': WHATEVER THE INPUT: true; the input reads as it did. -/
def stormFairSpec : ChangeSpec := { name := "stormFair", fn := fun _ => fun
  | [d1, d2] => { results := [.lit (.bool true)], args := [d1, d2] }
  | _ => none }
def stormFairRow : OpenClaim := { program := "ytdocphkpeonldaa", sum := "a05989d72efc2d82f9614da7cf5d914c9a59f9ea62880bd81e570e6c280997c0", func := "crossway/crosswaylaw42.StormFair", spec := "stormFair", plainKeys := false, apart := false }
def StormFairSaid : Prop := stormFairRow.holds Try.pinned (OpenSpec.ofChange stormFairSpec)

/-- ITS FALSE NEIGHBOUR: 'it returns false'. Refute it at one input. -/
def stormFairWrong : ChangeSpec := { name := "stormFair", fn := fun _ => fun
  | [d1, d2] => { results := [.lit (.bool false)], args := [d1, d2] }
  | _ => none }
def StormFairWrongFalsely : Prop := stormFairRow.holds Try.pinned (OpenSpec.ofChange stormFairWrong)

/-- 'crosswaylaw38.AuditOwner': WHATEVER THE INPUT: true; the input reads as it did. -/
def auditOwnerSpec : ChangeSpec := { name := "auditOwner", fn := fun _ => fun
  | [d1, d2, d3] => { results := [.lit (.bool true)], args := [d1, d2, d3] }
  | _ => none }
def auditOwnerRow : OpenClaim := { program := "ytdocphkpeonldaa", sum := "a05989d72efc2d82f9614da7cf5d914c9a59f9ea62880bd81e570e6c280997c0", func := "crossway/crosswaylaw38.AuditOwner", spec := "auditOwner", unfollowed := true, recurses := true, plainKeys := false, apart := false }
def AuditOwnerSaid : Prop := auditOwnerRow.holds Try.pinned (OpenSpec.ofChange auditOwnerSpec)

/-- ITS FALSE NEIGHBOUR: 'it returns false'. Refute it at one input. -/
def auditOwnerWrong : ChangeSpec := { name := "auditOwner", fn := fun _ => fun
  | [d1, d2, d3] => { results := [.lit (.bool false)], args := [d1, d2, d3] }
  | _ => none }
def AuditOwnerWrongFalsely : Prop := auditOwnerRow.holds Try.pinned (OpenSpec.ofChange auditOwnerWrong)

/-- 'crosswaylaw36.TraceBytes': WHATEVER THE INPUT: true; the input reads as it did. -/
def traceBytesSpec : ChangeSpec := { name := "traceBytes", fn := fun _ => fun
  | [d] => { results := [.lit (.bool true)], args := [d] }
  | _ => none }
def traceBytesRow : OpenClaim := { program := "ytdocphkpeonldaa", sum := "a05989d72efc2d82f9614da7cf5d914c9a59f9ea62880bd81e570e6c280997c0", func := "crossway/crosswaylaw36.TraceBytes", spec := "traceBytes", inPlace := ["internal/abi.NoEscape"], unfollowed := true, recurses := true, plainKeys := false, apart := false }
def TraceBytesSaid : Prop := traceBytesRow.holds Try.pinned (OpenSpec.ofChange traceBytesSpec)

/-- ITS FALSE NEIGHBOUR: 'it returns false'. Refute it at one input. -/
def traceBytesWrong : ChangeSpec := { name := "traceBytes", fn := fun _ => fun
  | [d] => { results := [.lit (.bool false)], args := [d] }
  | _ => none }
def TraceBytesWrongFalsely : Prop := traceBytesRow.holds Try.pinned (OpenSpec.ofChange traceBytesWrong)

/-- 'crosswaylaw32.TopoChecks': WHATEVER THE INPUT: true; the input reads as it did. -/
def topoChecksSpec : ChangeSpec := { name := "topoChecks", fn := fun _ => fun
  | [d] => { results := [.lit (.bool true)], args := [d] }
  | _ => none }
def topoChecksRow : OpenClaim := { program := "ytdocphkpeonldaa", sum := "a05989d72efc2d82f9614da7cf5d914c9a59f9ea62880bd81e570e6c280997c0", func := "crossway/crosswaylaw32.TopoChecks", spec := "topoChecks", unfollowed := true, recurses := true, plainKeys := false, apart := false }
def TopoChecksSaid : Prop := topoChecksRow.holds Try.pinned (OpenSpec.ofChange topoChecksSpec)

/-- ITS FALSE NEIGHBOUR: 'it returns false'. Refute it at one input. -/
def topoChecksWrong : ChangeSpec := { name := "topoChecks", fn := fun _ => fun
  | [d] => { results := [.lit (.bool false)], args := [d] }
  | _ => none }
def TopoChecksWrongFalsely : Prop := topoChecksRow.holds Try.pinned (OpenSpec.ofChange topoChecksWrong)

/-- 'crosswaylaw32.TopoFinds': WHATEVER THE INPUT: true; the input reads as it did. -/
def topoFindsSpec : ChangeSpec := { name := "topoFinds", fn := fun _ => fun
  | [d1, d2, d3] => { results := [.lit (.bool true)], args := [d1, d2, d3] }
  | _ => none }
def topoFindsRow : OpenClaim := { program := "ytdocphkpeonldaa", sum := "a05989d72efc2d82f9614da7cf5d914c9a59f9ea62880bd81e570e6c280997c0", func := "crossway/crosswaylaw32.TopoFinds", spec := "topoFinds", unfollowed := true, recurses := true, plainKeys := false, apart := false }
def TopoFindsSaid : Prop := topoFindsRow.holds Try.pinned (OpenSpec.ofChange topoFindsSpec)

/-- ITS FALSE NEIGHBOUR: 'it returns false'. Refute it at one input. -/
def topoFindsWrong : ChangeSpec := { name := "topoFinds", fn := fun _ => fun
  | [d1, d2, d3] => { results := [.lit (.bool false)], args := [d1, d2, d3] }
  | _ => none }
def TopoFindsWrongFalsely : Prop := topoFindsRow.holds Try.pinned (OpenSpec.ofChange topoFindsWrong)

/-- 'crosswaylaw31.NetPlays': WHATEVER THE INPUT: true; the input reads as it did. -/
def netPlaysSpec : ChangeSpec := { name := "netPlays", fn := fun _ => fun
  | [d] => { results := [.lit (.bool true)], args := [d] }
  | _ => none }
def netPlaysRow : OpenClaim := { program := "ytdocphkpeonldaa", sum := "a05989d72efc2d82f9614da7cf5d914c9a59f9ea62880bd81e570e6c280997c0", func := "crossway/crosswaylaw31.NetPlays", spec := "netPlays", plainKeys := false, apart := false }
def NetPlaysSaid : Prop := netPlaysRow.holds Try.pinned (OpenSpec.ofChange netPlaysSpec)

/-- ITS FALSE NEIGHBOUR: 'it returns false'. Refute it at one input. -/
def netPlaysWrong : ChangeSpec := { name := "netPlays", fn := fun _ => fun
  | [d] => { results := [.lit (.bool false)], args := [d] }
  | _ => none }
def NetPlaysWrongFalsely : Prop := netPlaysRow.holds Try.pinned (OpenSpec.ofChange netPlaysWrong)

/-- 'crosswaylaw18.DeliverOrder': WHATEVER THE INPUT: true; the input reads as it did. -/
def deliverOrderSpec : ChangeSpec := { name := "deliverOrder", fn := fun _ => fun
  | [d] => { results := [.lit (.bool true)], args := [d] }
  | _ => none }
def deliverOrderRow : OpenClaim := { program := "ytdocphkpeonldaa", sum := "a05989d72efc2d82f9614da7cf5d914c9a59f9ea62880bd81e570e6c280997c0", func := "crossway/crosswaylaw18.DeliverOrder", spec := "deliverOrder", plainKeys := false, apart := false }
def DeliverOrderSaid : Prop := deliverOrderRow.holds Try.pinned (OpenSpec.ofChange deliverOrderSpec)

/-- ITS FALSE NEIGHBOUR: 'it returns false'. Refute it at one input. -/
def deliverOrderWrong : ChangeSpec := { name := "deliverOrder", fn := fun _ => fun
  | [d] => { results := [.lit (.bool false)], args := [d] }
  | _ => none }
def DeliverOrderWrongFalsely : Prop := deliverOrderRow.holds Try.pinned (OpenSpec.ofChange deliverOrderWrong)

/-- 'crosswaylaw40.FilerLimits': WHATEVER THE INPUT: true; the input reads as it did. -/
def filerLimitsSpec : ChangeSpec := { name := "filerLimits", fn := fun _ => fun
  | [d] => { results := [.lit (.bool true)], args := [d] }
  | _ => none }
def filerLimitsRow : OpenClaim := { program := "ytdocphkpeonldaa", sum := "a05989d72efc2d82f9614da7cf5d914c9a59f9ea62880bd81e570e6c280997c0", func := "crossway/crosswaylaw40.FilerLimits", spec := "filerLimits", unfollowed := true, recurses := true, plainKeys := false, apart := false }
def FilerLimitsSaid : Prop := filerLimitsRow.holds Try.pinned (OpenSpec.ofChange filerLimitsSpec)

/-- ITS FALSE NEIGHBOUR: 'it returns false'. Refute it at one input. -/
def filerLimitsWrong : ChangeSpec := { name := "filerLimits", fn := fun _ => fun
  | [d] => { results := [.lit (.bool false)], args := [d] }
  | _ => none }
def FilerLimitsWrongFalsely : Prop := filerLimitsRow.holds Try.pinned (OpenSpec.ofChange filerLimitsWrong)

/- THE SECOND FORM. 'bulk': how many values and letters a reading holds, each counted each time it is reached (what is shared counts as often as it is met; a slice's spare places count too). A statement '..UptoSaid' is the law's where the arguments, and the package variables that the reading takes, are together of bulk at most 1048576: NARROWER than '..Said'. Prove '..Said' where nothing that the law and all that it calls make is longer than what came in: it says more and counts as full. Else prove '..UptoSaid'. A law counts once. -/
mutual
def uptoBulk {H : Type} : DataW H → Nat
  | .lit (.string bytes) => bytes.length + 1
  | .lit _ => 1
  | .nil => 1
  | .ptr d => uptoBulk d + 1
  | .slice elems spare => uptoBulkAll elems + uptoBulkAll spare + 1
  | .agg parts => uptoBulkAll parts + 1
  | .iface _ d => uptoBulk d + 1
  | .map entries => uptoBulkEntries entries + 1
  | .held _ => 1
def uptoBulkAll {H : Type} : List (DataW H) → Nat
  | [] => 0
  | d :: r => uptoBulk d + uptoBulkAll r
def uptoBulkEntries {H : Type} : List (Lit × DataW H) → Nat
  | [] => 0
  | x :: r => uptoBulkEntry x + uptoBulkEntries r
def uptoBulkEntry {H : Type} : Lit × DataW H → Nat
  | (.string bytes, d) => bytes.length + uptoBulk d + 1
  | (_, d) => uptoBulk d + 1
 end
def uptoSmall : (H : Type) → List (DataW H) → Bool := fun _ ds => decide (uptoBulkAll ds ≤ 1048576)
def OpenSpec.upto (s : _root_.Go.ChangeSpec) : _root_.Go.OpenSpec := { _root_.Go.OpenSpec.ofChange s with cond := some uptoSmall }

/-- 'crosswaylaw28.ReconfParams', WHERE WHAT IT READS IS OF BULK AT MOST 1048576: true; the input reads as it did. -/
def reconfParamsUptoRow : OpenClaim := { program := "ytdocphkpeonldaa", sum := "a05989d72efc2d82f9614da7cf5d914c9a59f9ea62880bd81e570e6c280997c0", func := "crossway/crosswaylaw28.ReconfParams", spec := "reconfParams", inPlace := ["internal/abi.NoEscape", "internal/bytealg.MakeNoZero"], unfollowed := true, recurses := true, plainKeys := false, apart := false, narrowed := true }
def ReconfParamsUptoSaid : Prop := reconfParamsUptoRow.holds Try.pinned (OpenSpec.upto reconfParamsSpec)

/-- 'crosswaylaw28.ReconfAsks', WHERE WHAT IT READS IS OF BULK AT MOST 1048576: true; the input reads as it did. -/
def reconfAsksUptoRow : OpenClaim := { program := "ytdocphkpeonldaa", sum := "a05989d72efc2d82f9614da7cf5d914c9a59f9ea62880bd81e570e6c280997c0", func := "crossway/crosswaylaw28.ReconfAsks", spec := "reconfAsks", inPlace := ["internal/abi.NoEscape", "internal/bytealg.MakeNoZero"], unfollowed := true, recurses := true, plainKeys := false, apart := false, narrowed := true }
def ReconfAsksUptoSaid : Prop := reconfAsksUptoRow.holds Try.pinned (OpenSpec.upto reconfAsksSpec)

/-- 'crosswaylaw28.ReconfAnswers', WHERE WHAT IT READS IS OF BULK AT MOST 1048576: true; the input reads as it did. -/
def reconfAnswersUptoRow : OpenClaim := { program := "ytdocphkpeonldaa", sum := "a05989d72efc2d82f9614da7cf5d914c9a59f9ea62880bd81e570e6c280997c0", func := "crossway/crosswaylaw28.ReconfAnswers", spec := "reconfAnswers", inPlace := ["internal/abi.NoEscape", "internal/bytealg.MakeNoZero"], unfollowed := true, recurses := true, plainKeys := false, apart := false, narrowed := true }
def ReconfAnswersUptoSaid : Prop := reconfAnswersUptoRow.holds Try.pinned (OpenSpec.upto reconfAnswersSpec)

/-- 'crosswaylaw42.StormCalm', WHERE WHAT IT READS IS OF BULK AT MOST 1048576: true; the input reads as it did. -/
def stormCalmUptoRow : OpenClaim := { program := "ytdocphkpeonldaa", sum := "a05989d72efc2d82f9614da7cf5d914c9a59f9ea62880bd81e570e6c280997c0", func := "crossway/crosswaylaw42.StormCalm", spec := "stormCalm", plainKeys := false, apart := false, narrowed := true }
def StormCalmUptoSaid : Prop := stormCalmUptoRow.holds Try.pinned (OpenSpec.upto stormCalmSpec)

/-- 'crosswaylaw42.StormFair', WHERE WHAT IT READS IS OF BULK AT MOST 1048576: true; the input reads as it did. -/
def stormFairUptoRow : OpenClaim := { program := "ytdocphkpeonldaa", sum := "a05989d72efc2d82f9614da7cf5d914c9a59f9ea62880bd81e570e6c280997c0", func := "crossway/crosswaylaw42.StormFair", spec := "stormFair", plainKeys := false, apart := false, narrowed := true }
def StormFairUptoSaid : Prop := stormFairUptoRow.holds Try.pinned (OpenSpec.upto stormFairSpec)

/-- 'crosswaylaw38.AuditOwner', WHERE WHAT IT READS IS OF BULK AT MOST 1048576: true; the input reads as it did. -/
def auditOwnerUptoRow : OpenClaim := { program := "ytdocphkpeonldaa", sum := "a05989d72efc2d82f9614da7cf5d914c9a59f9ea62880bd81e570e6c280997c0", func := "crossway/crosswaylaw38.AuditOwner", spec := "auditOwner", unfollowed := true, recurses := true, plainKeys := false, apart := false, narrowed := true }
def AuditOwnerUptoSaid : Prop := auditOwnerUptoRow.holds Try.pinned (OpenSpec.upto auditOwnerSpec)

/-- 'crosswaylaw36.TraceBytes', WHERE WHAT IT READS IS OF BULK AT MOST 1048576: true; the input reads as it did. -/
def traceBytesUptoRow : OpenClaim := { program := "ytdocphkpeonldaa", sum := "a05989d72efc2d82f9614da7cf5d914c9a59f9ea62880bd81e570e6c280997c0", func := "crossway/crosswaylaw36.TraceBytes", spec := "traceBytes", inPlace := ["internal/abi.NoEscape"], unfollowed := true, recurses := true, plainKeys := false, apart := false, narrowed := true }
def TraceBytesUptoSaid : Prop := traceBytesUptoRow.holds Try.pinned (OpenSpec.upto traceBytesSpec)

/-- 'crosswaylaw32.TopoChecks', WHERE WHAT IT READS IS OF BULK AT MOST 1048576: true; the input reads as it did. -/
def topoChecksUptoRow : OpenClaim := { program := "ytdocphkpeonldaa", sum := "a05989d72efc2d82f9614da7cf5d914c9a59f9ea62880bd81e570e6c280997c0", func := "crossway/crosswaylaw32.TopoChecks", spec := "topoChecks", unfollowed := true, recurses := true, plainKeys := false, apart := false, narrowed := true }
def TopoChecksUptoSaid : Prop := topoChecksUptoRow.holds Try.pinned (OpenSpec.upto topoChecksSpec)

/-- 'crosswaylaw32.TopoFinds', WHERE WHAT IT READS IS OF BULK AT MOST 1048576: true; the input reads as it did. -/
def topoFindsUptoRow : OpenClaim := { program := "ytdocphkpeonldaa", sum := "a05989d72efc2d82f9614da7cf5d914c9a59f9ea62880bd81e570e6c280997c0", func := "crossway/crosswaylaw32.TopoFinds", spec := "topoFinds", unfollowed := true, recurses := true, plainKeys := false, apart := false, narrowed := true }
def TopoFindsUptoSaid : Prop := topoFindsUptoRow.holds Try.pinned (OpenSpec.upto topoFindsSpec)

/-- 'crosswaylaw31.NetPlays', WHERE WHAT IT READS IS OF BULK AT MOST 1048576: true; the input reads as it did. -/
def netPlaysUptoRow : OpenClaim := { program := "ytdocphkpeonldaa", sum := "a05989d72efc2d82f9614da7cf5d914c9a59f9ea62880bd81e570e6c280997c0", func := "crossway/crosswaylaw31.NetPlays", spec := "netPlays", plainKeys := false, apart := false, narrowed := true }
def NetPlaysUptoSaid : Prop := netPlaysUptoRow.holds Try.pinned (OpenSpec.upto netPlaysSpec)

/-- 'crosswaylaw18.DeliverOrder', WHERE WHAT IT READS IS OF BULK AT MOST 1048576: true; the input reads as it did. -/
def deliverOrderUptoRow : OpenClaim := { program := "ytdocphkpeonldaa", sum := "a05989d72efc2d82f9614da7cf5d914c9a59f9ea62880bd81e570e6c280997c0", func := "crossway/crosswaylaw18.DeliverOrder", spec := "deliverOrder", plainKeys := false, apart := false, narrowed := true }
def DeliverOrderUptoSaid : Prop := deliverOrderUptoRow.holds Try.pinned (OpenSpec.upto deliverOrderSpec)

/-- 'crosswaylaw40.FilerLimits', WHERE WHAT IT READS IS OF BULK AT MOST 1048576: true; the input reads as it did. -/
def filerLimitsUptoRow : OpenClaim := { program := "ytdocphkpeonldaa", sum := "a05989d72efc2d82f9614da7cf5d914c9a59f9ea62880bd81e570e6c280997c0", func := "crossway/crosswaylaw40.FilerLimits", spec := "filerLimits", unfollowed := true, recurses := true, plainKeys := false, apart := false, narrowed := true }
def FilerLimitsUptoSaid : Prop := filerLimitsUptoRow.holds Try.pinned (OpenSpec.upto filerLimitsSpec)

end Rows
end Go.Proofs.Ytdocphkpeonldaa
