/-
  No cell of these rows narrows 'for every input' (looked for: loops, veiled, ifaces, maps, wideKeys, modest, calm, conditions, laid).
  DERIVED. THE GIVEN ROWS OF THIS SEAT. 12 by the template 'for every input the law returns true; each argument reads behind the call as it read before'; 0 by the template 'total and deterministic' (their statements: YtoaocppdbgphgaaTotals.lean).
  GIVEN WITH THE SEED: the statements are not yours to turn. If you find one false, say at which input.
  Laid BY PROGRAM, IN A SANDBOX (cutbox-rows.mjs): the forced cells as the released guide's own fill.sh prints them over the translation 6b1df731e438383c… (all of the seat's roots in one cut). By AI agents, Wed Nov 11 2026. No macro, syntax, notation, axiom, sorry.
-/
import Derived.Test.YtoaocppdbgphgaaChecked
import GoSem.Claim
import GoSem.ClaimJoined
import GoSem.ClaimMapViews
import Derived.JoinedTies
import Derived.KernelRfl
namespace Go.Proofs.Ytoaocppdbgphgaa
/- THE CELL 'sum', in the pinned program and in every row, IS THE sha256 OF THE DUMP (.gsa) THAT YtoaocppdbgphgaaProg.lean LOADS. Nothing in Lean hashes anything: it is a label: what it is worth is what the hold of that sum in a sandbox is worth. -/
noncomputable def Try.pinned : Pinned := { name := "ytoaocppdbgphgaa", sum := "6b1df731e438383c3d64b7e654342f5e47a1e530d0343d681e95b167bcb65851", checked := Try.checked }
namespace Rows
def none {H : Type} : Left H := { results := [], args := [] }

/-- 'crosswaylaw13.RtoMeasures': WHATEVER THE INPUT: true; the input reads as it did. -/
def rtoMeasuresSpec : ChangeSpec := { name := "rtoMeasures", fn := fun _ => fun
  | [d] => { results := [.lit (.bool true)], args := [d] }
  | _ => none }
def rtoMeasuresRow : OpenClaim := { program := "ytoaocppdbgphgaa", sum := "6b1df731e438383c3d64b7e654342f5e47a1e530d0343d681e95b167bcb65851", func := "crossway/crosswaylaw13.RtoMeasures", spec := "rtoMeasures", plainKeys := false, apart := false }
def RtoMeasuresSaid : Prop := rtoMeasuresRow.holds Try.pinned (OpenSpec.ofChange rtoMeasuresSpec)

/-- ITS FALSE NEIGHBOUR: 'it returns false'. Refute it at one input. -/
def rtoMeasuresWrong : ChangeSpec := { name := "rtoMeasures", fn := fun _ => fun
  | [d] => { results := [.lit (.bool false)], args := [d] }
  | _ => none }
def RtoMeasuresWrongFalsely : Prop := rtoMeasuresRow.holds Try.pinned (OpenSpec.ofChange rtoMeasuresWrong)

/-- 'crosswaylaw13.RtoLonger': WHATEVER THE INPUT: true; the input reads as it did. -/
def rtoLongerSpec : ChangeSpec := { name := "rtoLonger", fn := fun _ => fun
  | [d] => { results := [.lit (.bool true)], args := [d] }
  | _ => none }
def rtoLongerRow : OpenClaim := { program := "ytoaocppdbgphgaa", sum := "6b1df731e438383c3d64b7e654342f5e47a1e530d0343d681e95b167bcb65851", func := "crossway/crosswaylaw13.RtoLonger", spec := "rtoLonger", plainKeys := false, apart := false }
def RtoLongerSaid : Prop := rtoLongerRow.holds Try.pinned (OpenSpec.ofChange rtoLongerSpec)

/-- ITS FALSE NEIGHBOUR: 'it returns false'. Refute it at one input. -/
def rtoLongerWrong : ChangeSpec := { name := "rtoLonger", fn := fun _ => fun
  | [d] => { results := [.lit (.bool false)], args := [d] }
  | _ => none }
def RtoLongerWrongFalsely : Prop := rtoLongerRow.holds Try.pinned (OpenSpec.ofChange rtoLongerWrong)

/-- 'crosswaylaw14.PathRoom': WHATEVER THE INPUT: true; the input reads as it did. -/
def pathRoomSpec : ChangeSpec := { name := "pathRoom", fn := fun _ => fun
  | [d] => { results := [.lit (.bool true)], args := [d] }
  | _ => none }
def pathRoomRow : OpenClaim := { program := "ytoaocppdbgphgaa", sum := "6b1df731e438383c3d64b7e654342f5e47a1e530d0343d681e95b167bcb65851", func := "crossway/crosswaylaw14.PathRoom", spec := "pathRoom", plainKeys := false, apart := false }
def PathRoomSaid : Prop := pathRoomRow.holds Try.pinned (OpenSpec.ofChange pathRoomSpec)

/-- ITS FALSE NEIGHBOUR: 'it returns false'. Refute it at one input. -/
def pathRoomWrong : ChangeSpec := { name := "pathRoom", fn := fun _ => fun
  | [d] => { results := [.lit (.bool false)], args := [d] }
  | _ => none }
def PathRoomWrongFalsely : Prop := pathRoomRow.holds Try.pinned (OpenSpec.ofChange pathRoomWrong)

/-- 'crosswaylaw19.FragSplits': WHATEVER THE INPUT: true; the input reads as it did. -/
def fragSplitsSpec : ChangeSpec := { name := "fragSplits", fn := fun _ => fun
  | [d1, d2] => { results := [.lit (.bool true)], args := [d1, d2] }
  | _ => none }
def fragSplitsRow : OpenClaim := { program := "ytoaocppdbgphgaa", sum := "6b1df731e438383c3d64b7e654342f5e47a1e530d0343d681e95b167bcb65851", func := "crossway/crosswaylaw19.FragSplits", spec := "fragSplits", plainKeys := false, apart := false }
def FragSplitsSaid : Prop := fragSplitsRow.holds Try.pinned (OpenSpec.ofChange fragSplitsSpec)

/-- ITS FALSE NEIGHBOUR: 'it returns false'. Refute it at one input. -/
def fragSplitsWrong : ChangeSpec := { name := "fragSplits", fn := fun _ => fun
  | [d1, d2] => { results := [.lit (.bool false)], args := [d1, d2] }
  | _ => none }
def FragSplitsWrongFalsely : Prop := fragSplitsRow.holds Try.pinned (OpenSpec.ofChange fragSplitsWrong)

/-- 'crosswaylaw22.TagsMay': WHATEVER THE INPUT: true; the input reads as it did. -/
def tagsMaySpec : ChangeSpec := { name := "tagsMay", fn := fun _ => fun
  | [d] => { results := [.lit (.bool true)], args := [d] }
  | _ => none }
def tagsMayRow : OpenClaim := { program := "ytoaocppdbgphgaa", sum := "6b1df731e438383c3d64b7e654342f5e47a1e530d0343d681e95b167bcb65851", func := "crossway/crosswaylaw22.TagsMay", spec := "tagsMay", unfollowed := true, recurses := true, plainKeys := false, apart := false }
def TagsMaySaid : Prop := tagsMayRow.holds Try.pinned (OpenSpec.ofChange tagsMaySpec)

/-- ITS FALSE NEIGHBOUR: 'it returns false'. Refute it at one input. -/
def tagsMayWrong : ChangeSpec := { name := "tagsMay", fn := fun _ => fun
  | [d] => { results := [.lit (.bool false)], args := [d] }
  | _ => none }
def TagsMayWrongFalsely : Prop := tagsMayRow.holds Try.pinned (OpenSpec.ofChange tagsMayWrong)

/-- 'crosswaylaw23.ClashOf': WHATEVER THE INPUT: true; the input reads as it did. -/
def clashOfSpec : ChangeSpec := { name := "clashOf", fn := fun _ => fun
  | [d1, d2, d3] => { results := [.lit (.bool true)], args := [d1, d2, d3] }
  | _ => none }
def clashOfRow : OpenClaim := { program := "ytoaocppdbgphgaa", sum := "6b1df731e438383c3d64b7e654342f5e47a1e530d0343d681e95b167bcb65851", func := "crossway/crosswaylaw23.ClashOf", spec := "clashOf", plainKeys := false, apart := false }
def ClashOfSaid : Prop := clashOfRow.holds Try.pinned (OpenSpec.ofChange clashOfSpec)

/-- ITS FALSE NEIGHBOUR: 'it returns false'. Refute it at one input. -/
def clashOfWrong : ChangeSpec := { name := "clashOf", fn := fun _ => fun
  | [d1, d2, d3] => { results := [.lit (.bool false)], args := [d1, d2, d3] }
  | _ => none }
def ClashOfWrongFalsely : Prop := clashOfRow.holds Try.pinned (OpenSpec.ofChange clashOfWrong)

/-- 'crosswaylaw24.StrangeRules': WHATEVER THE INPUT: true; the input reads as it did. -/
def strangeRulesSpec : ChangeSpec := { name := "strangeRules", fn := fun _ => fun
  | [d] => { results := [.lit (.bool true)], args := [d] }
  | _ => none }
def strangeRulesRow : OpenClaim := { program := "ytoaocppdbgphgaa", sum := "6b1df731e438383c3d64b7e654342f5e47a1e530d0343d681e95b167bcb65851", func := "crossway/crosswaylaw24.StrangeRules", spec := "strangeRules", plainKeys := false, apart := false }
def StrangeRulesSaid : Prop := strangeRulesRow.holds Try.pinned (OpenSpec.ofChange strangeRulesSpec)

/-- ITS FALSE NEIGHBOUR: 'it returns false'. Refute it at one input. -/
def strangeRulesWrong : ChangeSpec := { name := "strangeRules", fn := fun _ => fun
  | [d] => { results := [.lit (.bool false)], args := [d] }
  | _ => none }
def StrangeRulesWrongFalsely : Prop := strangeRulesRow.holds Try.pinned (OpenSpec.ofChange strangeRulesWrong)

/-- 'crosswaylaw26.AckplanPlays': WHATEVER THE INPUT: true; the input reads as it did. -/
def ackplanPlaysSpec : ChangeSpec := { name := "ackplanPlays", fn := fun _ => fun
  | [d1, d2] => { results := [.lit (.bool true)], args := [d1, d2] }
  | _ => none }
def ackplanPlaysRow : OpenClaim := { program := "ytoaocppdbgphgaa", sum := "6b1df731e438383c3d64b7e654342f5e47a1e530d0343d681e95b167bcb65851", func := "crossway/crosswaylaw26.AckplanPlays", spec := "ackplanPlays", plainKeys := false, apart := false }
def AckplanPlaysSaid : Prop := ackplanPlaysRow.holds Try.pinned (OpenSpec.ofChange ackplanPlaysSpec)

/-- ITS FALSE NEIGHBOUR: 'it returns false'. Refute it at one input. -/
def ackplanPlaysWrong : ChangeSpec := { name := "ackplanPlays", fn := fun _ => fun
  | [d1, d2] => { results := [.lit (.bool false)], args := [d1, d2] }
  | _ => none }
def AckplanPlaysWrongFalsely : Prop := ackplanPlaysRow.holds Try.pinned (OpenSpec.ofChange ackplanPlaysWrong)

/-- 'crosswaylaw31.NetNone': WHATEVER THE INPUT: true; the input reads as it did. -/
def netNoneSpec : ChangeSpec := { name := "netNone", fn := fun _ => fun
  | [d1, d2] => { results := [.lit (.bool true)], args := [d1, d2] }
  | _ => none }
def netNoneRow : OpenClaim := { program := "ytoaocppdbgphgaa", sum := "6b1df731e438383c3d64b7e654342f5e47a1e530d0343d681e95b167bcb65851", func := "crossway/crosswaylaw31.NetNone", spec := "netNone", plainKeys := false, apart := false }
def NetNoneSaid : Prop := netNoneRow.holds Try.pinned (OpenSpec.ofChange netNoneSpec)

/-- ITS FALSE NEIGHBOUR: 'it returns false'. Refute it at one input. -/
def netNoneWrong : ChangeSpec := { name := "netNone", fn := fun _ => fun
  | [d1, d2] => { results := [.lit (.bool false)], args := [d1, d2] }
  | _ => none }
def NetNoneWrongFalsely : Prop := netNoneRow.holds Try.pinned (OpenSpec.ofChange netNoneWrong)

/-- 'crosswaylaw38.AuditTables': WHATEVER THE INPUT: true; the input reads as it did. -/
def auditTablesSpec : ChangeSpec := { name := "auditTables", fn := fun _ => fun
  | [d1, d2] => { results := [.lit (.bool true)], args := [d1, d2] }
  | _ => none }
def auditTablesRow : OpenClaim := { program := "ytoaocppdbgphgaa", sum := "6b1df731e438383c3d64b7e654342f5e47a1e530d0343d681e95b167bcb65851", func := "crossway/crosswaylaw38.AuditTables", spec := "auditTables", plainKeys := false, apart := false }
def AuditTablesSaid : Prop := auditTablesRow.holds Try.pinned (OpenSpec.ofChange auditTablesSpec)

/-- ITS FALSE NEIGHBOUR: 'it returns false'. Refute it at one input. -/
def auditTablesWrong : ChangeSpec := { name := "auditTables", fn := fun _ => fun
  | [d1, d2] => { results := [.lit (.bool false)], args := [d1, d2] }
  | _ => none }
def AuditTablesWrongFalsely : Prop := auditTablesRow.holds Try.pinned (OpenSpec.ofChange auditTablesWrong)

/-- 'crosswaylaw38.AuditOwner': WHATEVER THE INPUT: true; the input reads as it did. -/
def auditOwnerSpec : ChangeSpec := { name := "auditOwner", fn := fun _ => fun
  | [d1, d2, d3] => { results := [.lit (.bool true)], args := [d1, d2, d3] }
  | _ => none }
def auditOwnerRow : OpenClaim := { program := "ytoaocppdbgphgaa", sum := "6b1df731e438383c3d64b7e654342f5e47a1e530d0343d681e95b167bcb65851", func := "crossway/crosswaylaw38.AuditOwner", spec := "auditOwner", unfollowed := true, recurses := true, plainKeys := false, apart := false }
def AuditOwnerSaid : Prop := auditOwnerRow.holds Try.pinned (OpenSpec.ofChange auditOwnerSpec)

/-- ITS FALSE NEIGHBOUR: 'it returns false'. Refute it at one input. -/
def auditOwnerWrong : ChangeSpec := { name := "auditOwner", fn := fun _ => fun
  | [d1, d2, d3] => { results := [.lit (.bool false)], args := [d1, d2, d3] }
  | _ => none }
def AuditOwnerWrongFalsely : Prop := auditOwnerRow.holds Try.pinned (OpenSpec.ofChange auditOwnerWrong)

/-- 'crosswaylaw42.StormDraws': WHATEVER THE INPUT: true; the input reads as it did. -/
def stormDrawsSpec : ChangeSpec := { name := "stormDraws", fn := fun _ => fun
  | [d1, d2] => { results := [.lit (.bool true)], args := [d1, d2] }
  | _ => none }
def stormDrawsRow : OpenClaim := { program := "ytoaocppdbgphgaa", sum := "6b1df731e438383c3d64b7e654342f5e47a1e530d0343d681e95b167bcb65851", func := "crossway/crosswaylaw42.StormDraws", spec := "stormDraws", plainKeys := false, apart := false }
def StormDrawsSaid : Prop := stormDrawsRow.holds Try.pinned (OpenSpec.ofChange stormDrawsSpec)

/-- ITS FALSE NEIGHBOUR: 'it returns false'. Refute it at one input. -/
def stormDrawsWrong : ChangeSpec := { name := "stormDraws", fn := fun _ => fun
  | [d1, d2] => { results := [.lit (.bool false)], args := [d1, d2] }
  | _ => none }
def StormDrawsWrongFalsely : Prop := stormDrawsRow.holds Try.pinned (OpenSpec.ofChange stormDrawsWrong)

/- THE SECOND FORM. 'bulk': how many values and letters a reading holds, each counted each time it is reached (what is shared counts as often as it is met; a slice's spare places count too). A statement '..UptoSaid' is the law's where the arguments, and the package variables that the reading takes, are together of bulk at most 1048576: NARROWER than '..Said'. Prove '..Said' where nothing that the law and all that it calls make is longer than what came in: it says more and counts as full. Else prove '..UptoSaid'. A law counts once. -/
mutual
def uptoBulk {H : Type} : DataW H → Nat
  | .lit (.string bytes) => bytes.length + 1
  | .lit _ => 1
  | .nil => 1
  | .ptr d => uptoBulk d + 1
  | .slice elems spare => uptoBulkAll elems + uptoBulkAll spare + 1
  | .agg parts => uptoBulkAll parts + 1
  | .iface _ d => uptoBulk d + 1
  | .map entries => uptoBulkEntries entries + 1
  | .held _ => 1
def uptoBulkAll {H : Type} : List (DataW H) → Nat
  | [] => 0
  | d :: r => uptoBulk d + uptoBulkAll r
def uptoBulkEntries {H : Type} : List (Lit × DataW H) → Nat
  | [] => 0
  | x :: r => uptoBulkEntry x + uptoBulkEntries r
def uptoBulkEntry {H : Type} : Lit × DataW H → Nat
  | (.string bytes, d) => bytes.length + uptoBulk d + 1
  | (_, d) => uptoBulk d + 1
 end
def uptoSmall : (H : Type) → List (DataW H) → Bool := fun _ ds => decide (uptoBulkAll ds ≤ 1048576)
def OpenSpec.upto (s : _root_.Go.ChangeSpec) : _root_.Go.OpenSpec := { _root_.Go.OpenSpec.ofChange s with cond := some uptoSmall }

/-- 'crosswaylaw13.RtoMeasures', WHERE WHAT IT READS IS OF BULK AT MOST 1048576: true; the input reads as it did. -/
def rtoMeasuresUptoRow : OpenClaim := { program := "ytoaocppdbgphgaa", sum := "6b1df731e438383c3d64b7e654342f5e47a1e530d0343d681e95b167bcb65851", func := "crossway/crosswaylaw13.RtoMeasures", spec := "rtoMeasures", plainKeys := false, apart := false, narrowed := true }
def RtoMeasuresUptoSaid : Prop := rtoMeasuresUptoRow.holds Try.pinned (OpenSpec.upto rtoMeasuresSpec)

/-- 'crosswaylaw13.RtoLonger', WHERE WHAT IT READS IS OF BULK AT MOST 1048576: true; the input reads as it did. -/
def rtoLongerUptoRow : OpenClaim := { program := "ytoaocppdbgphgaa", sum := "6b1df731e438383c3d64b7e654342f5e47a1e530d0343d681e95b167bcb65851", func := "crossway/crosswaylaw13.RtoLonger", spec := "rtoLonger", plainKeys := false, apart := false, narrowed := true }
def RtoLongerUptoSaid : Prop := rtoLongerUptoRow.holds Try.pinned (OpenSpec.upto rtoLongerSpec)

/-- 'crosswaylaw14.PathRoom', WHERE WHAT IT READS IS OF BULK AT MOST 1048576: true; the input reads as it did. -/
def pathRoomUptoRow : OpenClaim := { program := "ytoaocppdbgphgaa", sum := "6b1df731e438383c3d64b7e654342f5e47a1e530d0343d681e95b167bcb65851", func := "crossway/crosswaylaw14.PathRoom", spec := "pathRoom", plainKeys := false, apart := false, narrowed := true }
def PathRoomUptoSaid : Prop := pathRoomUptoRow.holds Try.pinned (OpenSpec.upto pathRoomSpec)

/-- 'crosswaylaw19.FragSplits', WHERE WHAT IT READS IS OF BULK AT MOST 1048576: true; the input reads as it did. -/
def fragSplitsUptoRow : OpenClaim := { program := "ytoaocppdbgphgaa", sum := "6b1df731e438383c3d64b7e654342f5e47a1e530d0343d681e95b167bcb65851", func := "crossway/crosswaylaw19.FragSplits", spec := "fragSplits", plainKeys := false, apart := false, narrowed := true }
def FragSplitsUptoSaid : Prop := fragSplitsUptoRow.holds Try.pinned (OpenSpec.upto fragSplitsSpec)

/-- 'crosswaylaw22.TagsMay', WHERE WHAT IT READS IS OF BULK AT MOST 1048576: true; the input reads as it did. -/
def tagsMayUptoRow : OpenClaim := { program := "ytoaocppdbgphgaa", sum := "6b1df731e438383c3d64b7e654342f5e47a1e530d0343d681e95b167bcb65851", func := "crossway/crosswaylaw22.TagsMay", spec := "tagsMay", unfollowed := true, recurses := true, plainKeys := false, apart := false, narrowed := true }
def TagsMayUptoSaid : Prop := tagsMayUptoRow.holds Try.pinned (OpenSpec.upto tagsMaySpec)

/-- 'crosswaylaw23.ClashOf', WHERE WHAT IT READS IS OF BULK AT MOST 1048576: true; the input reads as it did. -/
def clashOfUptoRow : OpenClaim := { program := "ytoaocppdbgphgaa", sum := "6b1df731e438383c3d64b7e654342f5e47a1e530d0343d681e95b167bcb65851", func := "crossway/crosswaylaw23.ClashOf", spec := "clashOf", plainKeys := false, apart := false, narrowed := true }
def ClashOfUptoSaid : Prop := clashOfUptoRow.holds Try.pinned (OpenSpec.upto clashOfSpec)

/-- 'crosswaylaw24.StrangeRules', WHERE WHAT IT READS IS OF BULK AT MOST 1048576: true; the input reads as it did. -/
def strangeRulesUptoRow : OpenClaim := { program := "ytoaocppdbgphgaa", sum := "6b1df731e438383c3d64b7e654342f5e47a1e530d0343d681e95b167bcb65851", func := "crossway/crosswaylaw24.StrangeRules", spec := "strangeRules", plainKeys := false, apart := false, narrowed := true }
def StrangeRulesUptoSaid : Prop := strangeRulesUptoRow.holds Try.pinned (OpenSpec.upto strangeRulesSpec)

/-- 'crosswaylaw26.AckplanPlays', WHERE WHAT IT READS IS OF BULK AT MOST 1048576: true; the input reads as it did. -/
def ackplanPlaysUptoRow : OpenClaim := { program := "ytoaocppdbgphgaa", sum := "6b1df731e438383c3d64b7e654342f5e47a1e530d0343d681e95b167bcb65851", func := "crossway/crosswaylaw26.AckplanPlays", spec := "ackplanPlays", plainKeys := false, apart := false, narrowed := true }
def AckplanPlaysUptoSaid : Prop := ackplanPlaysUptoRow.holds Try.pinned (OpenSpec.upto ackplanPlaysSpec)

/-- 'crosswaylaw31.NetNone', WHERE WHAT IT READS IS OF BULK AT MOST 1048576: true; the input reads as it did. -/
def netNoneUptoRow : OpenClaim := { program := "ytoaocppdbgphgaa", sum := "6b1df731e438383c3d64b7e654342f5e47a1e530d0343d681e95b167bcb65851", func := "crossway/crosswaylaw31.NetNone", spec := "netNone", plainKeys := false, apart := false, narrowed := true }
def NetNoneUptoSaid : Prop := netNoneUptoRow.holds Try.pinned (OpenSpec.upto netNoneSpec)

/-- 'crosswaylaw38.AuditTables', WHERE WHAT IT READS IS OF BULK AT MOST 1048576: true; the input reads as it did. -/
def auditTablesUptoRow : OpenClaim := { program := "ytoaocppdbgphgaa", sum := "6b1df731e438383c3d64b7e654342f5e47a1e530d0343d681e95b167bcb65851", func := "crossway/crosswaylaw38.AuditTables", spec := "auditTables", plainKeys := false, apart := false, narrowed := true }
def AuditTablesUptoSaid : Prop := auditTablesUptoRow.holds Try.pinned (OpenSpec.upto auditTablesSpec)

/-- 'crosswaylaw38.AuditOwner', WHERE WHAT IT READS IS OF BULK AT MOST 1048576: true; the input reads as it did. -/
def auditOwnerUptoRow : OpenClaim := { program := "ytoaocppdbgphgaa", sum := "6b1df731e438383c3d64b7e654342f5e47a1e530d0343d681e95b167bcb65851", func := "crossway/crosswaylaw38.AuditOwner", spec := "auditOwner", unfollowed := true, recurses := true, plainKeys := false, apart := false, narrowed := true }
def AuditOwnerUptoSaid : Prop := auditOwnerUptoRow.holds Try.pinned (OpenSpec.upto auditOwnerSpec)

/-- 'crosswaylaw42.StormDraws', WHERE WHAT IT READS IS OF BULK AT MOST 1048576: true; the input reads as it did. -/
def stormDrawsUptoRow : OpenClaim := { program := "ytoaocppdbgphgaa", sum := "6b1df731e438383c3d64b7e654342f5e47a1e530d0343d681e95b167bcb65851", func := "crossway/crosswaylaw42.StormDraws", spec := "stormDraws", plainKeys := false, apart := false, narrowed := true }
def StormDrawsUptoSaid : Prop := stormDrawsUptoRow.holds Try.pinned (OpenSpec.upto stormDrawsSpec)

end Rows
end Go.Proofs.Ytoaocppdbgphgaa
