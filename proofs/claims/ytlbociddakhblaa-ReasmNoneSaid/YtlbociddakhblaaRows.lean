/-
  No cell of these rows narrows 'for every input' (looked for: loops, veiled, ifaces, maps, wideKeys, modest, calm, conditions, laid).
  DERIVED. THE GIVEN ROWS OF THIS SEAT. 12 by the template 'for every input the law returns true; each argument reads behind the call as it read before'; 0 by the template 'total and deterministic' (their statements: YtlbociddakhblaaTotals.lean).
  GIVEN WITH THE SEED: the statements are not yours to turn. If you find one false, say at which input.
  Laid BY PROGRAM, IN A SANDBOX (cutbox-rows.mjs): the forced cells as the released guide's own fill.sh prints them over the translation 0e751db1230e31fb… (all of the seat's roots in one cut). By AI agents, Wed Nov 11 2026. No macro, syntax, notation, axiom, sorry.
-/
import Derived.Test.YtlbociddakhblaaChecked
import GoSem.Claim
import GoSem.ClaimJoined
import GoSem.ClaimMapViews
import Derived.JoinedTies
import Derived.KernelRfl
namespace Go.Proofs.Ytlbociddakhblaa
/- THE CELL 'sum', in the pinned program and in every row, IS THE sha256 OF THE DUMP (.gsa) THAT YtlbociddakhblaaProg.lean LOADS. Nothing in Lean hashes anything: it is a label: what it is worth is what the hold of that sum in a sandbox is worth. -/
noncomputable def Try.pinned : Pinned := { name := "ytlbociddakhblaa", sum := "0e751db1230e31fb71b8930a6750ec3c14f862b2c64789928f94d56c82ed3923", checked := Try.checked }
namespace Rows
def none {H : Type} : Left H := { results := [], args := [] }

/-- 'crosswaylaw31.NetNone': WHATEVER THE INPUT: true; the input reads as it did. -/
def netNoneSpec : ChangeSpec := { name := "netNone", fn := fun _ => fun
  | [d1, d2] => { results := [.lit (.bool true)], args := [d1, d2] }
  | _ => none }
def netNoneRow : OpenClaim := { program := "ytlbociddakhblaa", sum := "0e751db1230e31fb71b8930a6750ec3c14f862b2c64789928f94d56c82ed3923", func := "crossway/crosswaylaw31.NetNone", spec := "netNone", plainKeys := false, apart := false }
def NetNoneSaid : Prop := netNoneRow.holds Try.pinned (OpenSpec.ofChange netNoneSpec)

/-- ITS FALSE NEIGHBOUR: 'it returns false'. Refute it at one input. -/
def netNoneWrong : ChangeSpec := { name := "netNone", fn := fun _ => fun
  | [d1, d2] => { results := [.lit (.bool false)], args := [d1, d2] }
  | _ => none }
def NetNoneWrongFalsely : Prop := netNoneRow.holds Try.pinned (OpenSpec.ofChange netNoneWrong)

/-- 'crosswaylaw26.AckplanPlays': WHATEVER THE INPUT: true; the input reads as it did. -/
def ackplanPlaysSpec : ChangeSpec := { name := "ackplanPlays", fn := fun _ => fun
  | [d1, d2] => { results := [.lit (.bool true)], args := [d1, d2] }
  | _ => none }
def ackplanPlaysRow : OpenClaim := { program := "ytlbociddakhblaa", sum := "0e751db1230e31fb71b8930a6750ec3c14f862b2c64789928f94d56c82ed3923", func := "crossway/crosswaylaw26.AckplanPlays", spec := "ackplanPlays", plainKeys := false, apart := false }
def AckplanPlaysSaid : Prop := ackplanPlaysRow.holds Try.pinned (OpenSpec.ofChange ackplanPlaysSpec)

/-- ITS FALSE NEIGHBOUR: 'it returns false'. Refute it at one input. -/
def ackplanPlaysWrong : ChangeSpec := { name := "ackplanPlays", fn := fun _ => fun
  | [d1, d2] => { results := [.lit (.bool false)], args := [d1, d2] }
  | _ => none }
def AckplanPlaysWrongFalsely : Prop := ackplanPlaysRow.holds Try.pinned (OpenSpec.ofChange ackplanPlaysWrong)

/-- 'crosswaylaw26.AckplanNone': WHATEVER THE INPUT: true; the input reads as it did. -/
def ackplanNoneSpec : ChangeSpec := { name := "ackplanNone", fn := fun _ => fun
  | [d1, d2] => { results := [.lit (.bool true)], args := [d1, d2] }
  | _ => none }
def ackplanNoneRow : OpenClaim := { program := "ytlbociddakhblaa", sum := "0e751db1230e31fb71b8930a6750ec3c14f862b2c64789928f94d56c82ed3923", func := "crossway/crosswaylaw26.AckplanNone", spec := "ackplanNone", plainKeys := false, apart := false }
def AckplanNoneSaid : Prop := ackplanNoneRow.holds Try.pinned (OpenSpec.ofChange ackplanNoneSpec)

/-- ITS FALSE NEIGHBOUR: 'it returns false'. Refute it at one input. -/
def ackplanNoneWrong : ChangeSpec := { name := "ackplanNone", fn := fun _ => fun
  | [d1, d2] => { results := [.lit (.bool false)], args := [d1, d2] }
  | _ => none }
def AckplanNoneWrongFalsely : Prop := ackplanNoneRow.holds Try.pinned (OpenSpec.ofChange ackplanNoneWrong)

/-- 'crosswaylaw42.StormDraws': WHATEVER THE INPUT: true; the input reads as it did. -/
def stormDrawsSpec : ChangeSpec := { name := "stormDraws", fn := fun _ => fun
  | [d1, d2] => { results := [.lit (.bool true)], args := [d1, d2] }
  | _ => none }
def stormDrawsRow : OpenClaim := { program := "ytlbociddakhblaa", sum := "0e751db1230e31fb71b8930a6750ec3c14f862b2c64789928f94d56c82ed3923", func := "crossway/crosswaylaw42.StormDraws", spec := "stormDraws", plainKeys := false, apart := false }
def StormDrawsSaid : Prop := stormDrawsRow.holds Try.pinned (OpenSpec.ofChange stormDrawsSpec)

/-- ITS FALSE NEIGHBOUR: 'it returns false'. Refute it at one input. -/
def stormDrawsWrong : ChangeSpec := { name := "stormDraws", fn := fun _ => fun
  | [d1, d2] => { results := [.lit (.bool false)], args := [d1, d2] }
  | _ => none }
def StormDrawsWrongFalsely : Prop := stormDrawsRow.holds Try.pinned (OpenSpec.ofChange stormDrawsWrong)

/-- 'crosswaylaw38.AuditTables': WHATEVER THE INPUT: true; the input reads as it did. -/
def auditTablesSpec : ChangeSpec := { name := "auditTables", fn := fun _ => fun
  | [d1, d2] => { results := [.lit (.bool true)], args := [d1, d2] }
  | _ => none }
def auditTablesRow : OpenClaim := { program := "ytlbociddakhblaa", sum := "0e751db1230e31fb71b8930a6750ec3c14f862b2c64789928f94d56c82ed3923", func := "crossway/crosswaylaw38.AuditTables", spec := "auditTables", plainKeys := false, apart := false }
def AuditTablesSaid : Prop := auditTablesRow.holds Try.pinned (OpenSpec.ofChange auditTablesSpec)

/-- ITS FALSE NEIGHBOUR: 'it returns false'. Refute it at one input. -/
def auditTablesWrong : ChangeSpec := { name := "auditTables", fn := fun _ => fun
  | [d1, d2] => { results := [.lit (.bool false)], args := [d1, d2] }
  | _ => none }
def AuditTablesWrongFalsely : Prop := auditTablesRow.holds Try.pinned (OpenSpec.ofChange auditTablesWrong)

/-- 'crosswaylaw19.FragSplits': WHATEVER THE INPUT: true; the input reads as it did. -/
def fragSplitsSpec : ChangeSpec := { name := "fragSplits", fn := fun _ => fun
  | [d1, d2] => { results := [.lit (.bool true)], args := [d1, d2] }
  | _ => none }
def fragSplitsRow : OpenClaim := { program := "ytlbociddakhblaa", sum := "0e751db1230e31fb71b8930a6750ec3c14f862b2c64789928f94d56c82ed3923", func := "crossway/crosswaylaw19.FragSplits", spec := "fragSplits", plainKeys := false, apart := false }
def FragSplitsSaid : Prop := fragSplitsRow.holds Try.pinned (OpenSpec.ofChange fragSplitsSpec)

/-- ITS FALSE NEIGHBOUR: 'it returns false'. Refute it at one input. -/
def fragSplitsWrong : ChangeSpec := { name := "fragSplits", fn := fun _ => fun
  | [d1, d2] => { results := [.lit (.bool false)], args := [d1, d2] }
  | _ => none }
def FragSplitsWrongFalsely : Prop := fragSplitsRow.holds Try.pinned (OpenSpec.ofChange fragSplitsWrong)

/-- 'crosswaylaw15.PathsNone': WHATEVER THE INPUT: true; the input reads as it did. -/
def pathsNoneSpec : ChangeSpec := { name := "pathsNone", fn := fun _ => fun
  | [d1, d2] => { results := [.lit (.bool true)], args := [d1, d2] }
  | _ => none }
def pathsNoneRow : OpenClaim := { program := "ytlbociddakhblaa", sum := "0e751db1230e31fb71b8930a6750ec3c14f862b2c64789928f94d56c82ed3923", func := "crossway/crosswaylaw15.PathsNone", spec := "pathsNone", unfollowed := true, recurses := true, plainKeys := false, apart := false }
def PathsNoneSaid : Prop := pathsNoneRow.holds Try.pinned (OpenSpec.ofChange pathsNoneSpec)

/-- ITS FALSE NEIGHBOUR: 'it returns false'. Refute it at one input. -/
def pathsNoneWrong : ChangeSpec := { name := "pathsNone", fn := fun _ => fun
  | [d1, d2] => { results := [.lit (.bool false)], args := [d1, d2] }
  | _ => none }
def PathsNoneWrongFalsely : Prop := pathsNoneRow.holds Try.pinned (OpenSpec.ofChange pathsNoneWrong)

/-- 'crosswaylaw16.GapsNone': WHATEVER THE INPUT: true; the input reads as it did. -/
def gapsNoneSpec : ChangeSpec := { name := "gapsNone", fn := fun _ => fun
  | [d] => { results := [.lit (.bool true)], args := [d] }
  | _ => none }
def gapsNoneRow : OpenClaim := { program := "ytlbociddakhblaa", sum := "0e751db1230e31fb71b8930a6750ec3c14f862b2c64789928f94d56c82ed3923", func := "crossway/crosswaylaw16.GapsNone", spec := "gapsNone", inPlace := ["slices.overlaps[crossway/gaps.part]"], unfollowed := true, recurses := true, plainKeys := false, apart := false }
def GapsNoneSaid : Prop := gapsNoneRow.holds Try.pinned (OpenSpec.ofChange gapsNoneSpec)

/-- ITS FALSE NEIGHBOUR: 'it returns false'. Refute it at one input. -/
def gapsNoneWrong : ChangeSpec := { name := "gapsNone", fn := fun _ => fun
  | [d] => { results := [.lit (.bool false)], args := [d] }
  | _ => none }
def GapsNoneWrongFalsely : Prop := gapsNoneRow.holds Try.pinned (OpenSpec.ofChange gapsNoneWrong)

/-- 'crosswaylaw17.ReasmNone': WHATEVER THE INPUT: true; the input reads as it did. -/
def reasmNoneSpec : ChangeSpec := { name := "reasmNone", fn := fun _ => fun
  | [d] => { results := [.lit (.bool true)], args := [d] }
  | _ => none }
def reasmNoneRow : OpenClaim := { program := "ytlbociddakhblaa", sum := "0e751db1230e31fb71b8930a6750ec3c14f862b2c64789928f94d56c82ed3923", func := "crossway/crosswaylaw17.ReasmNone", spec := "reasmNone", inPlace := ["internal/abi.NoEscape"], plainKeys := false, apart := false }
def ReasmNoneSaid : Prop := reasmNoneRow.holds Try.pinned (OpenSpec.ofChange reasmNoneSpec)

/-- ITS FALSE NEIGHBOUR: 'it returns false'. Refute it at one input. -/
def reasmNoneWrong : ChangeSpec := { name := "reasmNone", fn := fun _ => fun
  | [d] => { results := [.lit (.bool false)], args := [d] }
  | _ => none }
def ReasmNoneWrongFalsely : Prop := reasmNoneRow.holds Try.pinned (OpenSpec.ofChange reasmNoneWrong)

/-- 'crosswaylaw18.DeliverNone': WHATEVER THE INPUT: true; the input reads as it did. -/
def deliverNoneSpec : ChangeSpec := { name := "deliverNone", fn := fun _ => fun
  | [d1, d2] => { results := [.lit (.bool true)], args := [d1, d2] }
  | _ => none }
def deliverNoneRow : OpenClaim := { program := "ytlbociddakhblaa", sum := "0e751db1230e31fb71b8930a6750ec3c14f862b2c64789928f94d56c82ed3923", func := "crossway/crosswaylaw18.DeliverNone", spec := "deliverNone", plainKeys := false, apart := false }
def DeliverNoneSaid : Prop := deliverNoneRow.holds Try.pinned (OpenSpec.ofChange deliverNoneSpec)

/-- ITS FALSE NEIGHBOUR: 'it returns false'. Refute it at one input. -/
def deliverNoneWrong : ChangeSpec := { name := "deliverNone", fn := fun _ => fun
  | [d1, d2] => { results := [.lit (.bool false)], args := [d1, d2] }
  | _ => none }
def DeliverNoneWrongFalsely : Prop := deliverNoneRow.holds Try.pinned (OpenSpec.ofChange deliverNoneWrong)

/-- 'crosswaylaw20.SendqNone': WHATEVER THE INPUT: true; the input reads as it did. -/
def sendqNoneSpec : ChangeSpec := { name := "sendqNone", fn := fun _ => fun
  | [d1, d2] => { results := [.lit (.bool true)], args := [d1, d2] }
  | _ => none }
def sendqNoneRow : OpenClaim := { program := "ytlbociddakhblaa", sum := "0e751db1230e31fb71b8930a6750ec3c14f862b2c64789928f94d56c82ed3923", func := "crossway/crosswaylaw20.SendqNone", spec := "sendqNone", plainKeys := false, apart := false }
def SendqNoneSaid : Prop := sendqNoneRow.holds Try.pinned (OpenSpec.ofChange sendqNoneSpec)

/-- ITS FALSE NEIGHBOUR: 'it returns false'. Refute it at one input. -/
def sendqNoneWrong : ChangeSpec := { name := "sendqNone", fn := fun _ => fun
  | [d1, d2] => { results := [.lit (.bool false)], args := [d1, d2] }
  | _ => none }
def SendqNoneWrongFalsely : Prop := sendqNoneRow.holds Try.pinned (OpenSpec.ofChange sendqNoneWrong)

/-- 'crosswaylaw11.NattabNone': WHATEVER THE INPUT: true; the input reads as it did. -/
def nattabNoneSpec : ChangeSpec := { name := "nattabNone", fn := fun _ => fun
  | [d1, d2] => { results := [.lit (.bool true)], args := [d1, d2] }
  | _ => none }
def nattabNoneRow : OpenClaim := { program := "ytlbociddakhblaa", sum := "0e751db1230e31fb71b8930a6750ec3c14f862b2c64789928f94d56c82ed3923", func := "crossway/crosswaylaw11.NattabNone", spec := "nattabNone", unfollowed := true, recurses := true, plainKeys := false, apart := false }
def NattabNoneSaid : Prop := nattabNoneRow.holds Try.pinned (OpenSpec.ofChange nattabNoneSpec)

/-- ITS FALSE NEIGHBOUR: 'it returns false'. Refute it at one input. -/
def nattabNoneWrong : ChangeSpec := { name := "nattabNone", fn := fun _ => fun
  | [d1, d2] => { results := [.lit (.bool false)], args := [d1, d2] }
  | _ => none }
def NattabNoneWrongFalsely : Prop := nattabNoneRow.holds Try.pinned (OpenSpec.ofChange nattabNoneWrong)

/- THE SECOND FORM. 'bulk': how many values and letters a reading holds, each counted each time it is reached (what is shared counts as often as it is met; a slice's spare places count too). A statement '..UptoSaid' is the law's where the arguments, and the package variables that the reading takes, are together of bulk at most 1048576: NARROWER than '..Said'. Prove '..Said' where nothing that the law and all that it calls make is longer than what came in: it says more and counts as full. Else prove '..UptoSaid'. A law counts once. -/
mutual
def uptoBulk {H : Type} : DataW H → Nat
  | .lit (.string bytes) => bytes.length + 1
  | .lit _ => 1
  | .nil => 1
  | .ptr d => uptoBulk d + 1
  | .slice elems spare => uptoBulkAll elems + uptoBulkAll spare + 1
  | .agg parts => uptoBulkAll parts + 1
  | .iface _ d => uptoBulk d + 1
  | .map entries => uptoBulkEntries entries + 1
  | .held _ => 1
def uptoBulkAll {H : Type} : List (DataW H) → Nat
  | [] => 0
  | d :: r => uptoBulk d + uptoBulkAll r
def uptoBulkEntries {H : Type} : List (Lit × DataW H) → Nat
  | [] => 0
  | x :: r => uptoBulkEntry x + uptoBulkEntries r
def uptoBulkEntry {H : Type} : Lit × DataW H → Nat
  | (.string bytes, d) => bytes.length + uptoBulk d + 1
  | (_, d) => uptoBulk d + 1
 end
def uptoSmall : (H : Type) → List (DataW H) → Bool := fun _ ds => decide (uptoBulkAll ds ≤ 1048576)
def OpenSpec.upto (s : _root_.Go.ChangeSpec) : _root_.Go.OpenSpec := { _root_.Go.OpenSpec.ofChange s with cond := some uptoSmall }

/-- 'crosswaylaw31.NetNone', WHERE WHAT IT READS IS OF BULK AT MOST 1048576: true; the input reads as it did. -/
def netNoneUptoRow : OpenClaim := { program := "ytlbociddakhblaa", sum := "0e751db1230e31fb71b8930a6750ec3c14f862b2c64789928f94d56c82ed3923", func := "crossway/crosswaylaw31.NetNone", spec := "netNone", plainKeys := false, apart := false, narrowed := true }
def NetNoneUptoSaid : Prop := netNoneUptoRow.holds Try.pinned (OpenSpec.upto netNoneSpec)

/-- 'crosswaylaw26.AckplanPlays', WHERE WHAT IT READS IS OF BULK AT MOST 1048576: true; the input reads as it did. -/
def ackplanPlaysUptoRow : OpenClaim := { program := "ytlbociddakhblaa", sum := "0e751db1230e31fb71b8930a6750ec3c14f862b2c64789928f94d56c82ed3923", func := "crossway/crosswaylaw26.AckplanPlays", spec := "ackplanPlays", plainKeys := false, apart := false, narrowed := true }
def AckplanPlaysUptoSaid : Prop := ackplanPlaysUptoRow.holds Try.pinned (OpenSpec.upto ackplanPlaysSpec)

/-- 'crosswaylaw26.AckplanNone', WHERE WHAT IT READS IS OF BULK AT MOST 1048576: true; the input reads as it did. -/
def ackplanNoneUptoRow : OpenClaim := { program := "ytlbociddakhblaa", sum := "0e751db1230e31fb71b8930a6750ec3c14f862b2c64789928f94d56c82ed3923", func := "crossway/crosswaylaw26.AckplanNone", spec := "ackplanNone", plainKeys := false, apart := false, narrowed := true }
def AckplanNoneUptoSaid : Prop := ackplanNoneUptoRow.holds Try.pinned (OpenSpec.upto ackplanNoneSpec)

/-- 'crosswaylaw42.StormDraws', WHERE WHAT IT READS IS OF BULK AT MOST 1048576: true; the input reads as it did. -/
def stormDrawsUptoRow : OpenClaim := { program := "ytlbociddakhblaa", sum := "0e751db1230e31fb71b8930a6750ec3c14f862b2c64789928f94d56c82ed3923", func := "crossway/crosswaylaw42.StormDraws", spec := "stormDraws", plainKeys := false, apart := false, narrowed := true }
def StormDrawsUptoSaid : Prop := stormDrawsUptoRow.holds Try.pinned (OpenSpec.upto stormDrawsSpec)

/-- 'crosswaylaw38.AuditTables', WHERE WHAT IT READS IS OF BULK AT MOST 1048576: true; the input reads as it did. -/
def auditTablesUptoRow : OpenClaim := { program := "ytlbociddakhblaa", sum := "0e751db1230e31fb71b8930a6750ec3c14f862b2c64789928f94d56c82ed3923", func := "crossway/crosswaylaw38.AuditTables", spec := "auditTables", plainKeys := false, apart := false, narrowed := true }
def AuditTablesUptoSaid : Prop := auditTablesUptoRow.holds Try.pinned (OpenSpec.upto auditTablesSpec)

/-- 'crosswaylaw19.FragSplits', WHERE WHAT IT READS IS OF BULK AT MOST 1048576: true; the input reads as it did. -/
def fragSplitsUptoRow : OpenClaim := { program := "ytlbociddakhblaa", sum := "0e751db1230e31fb71b8930a6750ec3c14f862b2c64789928f94d56c82ed3923", func := "crossway/crosswaylaw19.FragSplits", spec := "fragSplits", plainKeys := false, apart := false, narrowed := true }
def FragSplitsUptoSaid : Prop := fragSplitsUptoRow.holds Try.pinned (OpenSpec.upto fragSplitsSpec)

/-- 'crosswaylaw15.PathsNone', WHERE WHAT IT READS IS OF BULK AT MOST 1048576: true; the input reads as it did. -/
def pathsNoneUptoRow : OpenClaim := { program := "ytlbociddakhblaa", sum := "0e751db1230e31fb71b8930a6750ec3c14f862b2c64789928f94d56c82ed3923", func := "crossway/crosswaylaw15.PathsNone", spec := "pathsNone", unfollowed := true, recurses := true, plainKeys := false, apart := false, narrowed := true }
def PathsNoneUptoSaid : Prop := pathsNoneUptoRow.holds Try.pinned (OpenSpec.upto pathsNoneSpec)

/-- 'crosswaylaw16.GapsNone', WHERE WHAT IT READS IS OF BULK AT MOST 1048576: true; the input reads as it did. -/
def gapsNoneUptoRow : OpenClaim := { program := "ytlbociddakhblaa", sum := "0e751db1230e31fb71b8930a6750ec3c14f862b2c64789928f94d56c82ed3923", func := "crossway/crosswaylaw16.GapsNone", spec := "gapsNone", inPlace := ["slices.overlaps[crossway/gaps.part]"], unfollowed := true, recurses := true, plainKeys := false, apart := false, narrowed := true }
def GapsNoneUptoSaid : Prop := gapsNoneUptoRow.holds Try.pinned (OpenSpec.upto gapsNoneSpec)

/-- 'crosswaylaw17.ReasmNone', WHERE WHAT IT READS IS OF BULK AT MOST 1048576: true; the input reads as it did. -/
def reasmNoneUptoRow : OpenClaim := { program := "ytlbociddakhblaa", sum := "0e751db1230e31fb71b8930a6750ec3c14f862b2c64789928f94d56c82ed3923", func := "crossway/crosswaylaw17.ReasmNone", spec := "reasmNone", inPlace := ["internal/abi.NoEscape"], plainKeys := false, apart := false, narrowed := true }
def ReasmNoneUptoSaid : Prop := reasmNoneUptoRow.holds Try.pinned (OpenSpec.upto reasmNoneSpec)

/-- 'crosswaylaw18.DeliverNone', WHERE WHAT IT READS IS OF BULK AT MOST 1048576: true; the input reads as it did. -/
def deliverNoneUptoRow : OpenClaim := { program := "ytlbociddakhblaa", sum := "0e751db1230e31fb71b8930a6750ec3c14f862b2c64789928f94d56c82ed3923", func := "crossway/crosswaylaw18.DeliverNone", spec := "deliverNone", plainKeys := false, apart := false, narrowed := true }
def DeliverNoneUptoSaid : Prop := deliverNoneUptoRow.holds Try.pinned (OpenSpec.upto deliverNoneSpec)

/-- 'crosswaylaw20.SendqNone', WHERE WHAT IT READS IS OF BULK AT MOST 1048576: true; the input reads as it did. -/
def sendqNoneUptoRow : OpenClaim := { program := "ytlbociddakhblaa", sum := "0e751db1230e31fb71b8930a6750ec3c14f862b2c64789928f94d56c82ed3923", func := "crossway/crosswaylaw20.SendqNone", spec := "sendqNone", plainKeys := false, apart := false, narrowed := true }
def SendqNoneUptoSaid : Prop := sendqNoneUptoRow.holds Try.pinned (OpenSpec.upto sendqNoneSpec)

/-- 'crosswaylaw11.NattabNone', WHERE WHAT IT READS IS OF BULK AT MOST 1048576: true; the input reads as it did. -/
def nattabNoneUptoRow : OpenClaim := { program := "ytlbociddakhblaa", sum := "0e751db1230e31fb71b8930a6750ec3c14f862b2c64789928f94d56c82ed3923", func := "crossway/crosswaylaw11.NattabNone", spec := "nattabNone", unfollowed := true, recurses := true, plainKeys := false, apart := false, narrowed := true }
def NattabNoneUptoSaid : Prop := nattabNoneUptoRow.holds Try.pinned (OpenSpec.upto nattabNoneSpec)

end Rows
end Go.Proofs.Ytlbociddakhblaa
