/-
  No cell of these rows narrows 'for every input' (looked for: loops, veiled, ifaces, maps, wideKeys, modest, calm, conditions, laid).
  DERIVED. THE GIVEN ROWS OF THIS SEAT. 4 by the template 'for every input the law returns true; each argument reads behind the call as it read before'; 0 by the template 'total and deterministic' (their statements: YthjhiogbnacmdaaTotals.lean).
  GIVEN WITH THE SEED: the statements are not yours to turn. If you find one false, say at which input.
  Laid BY PROGRAM, IN A SANDBOX (cutbox-rows.mjs): the forced cells as the released guide's own fill.sh prints them over the translation dcd41fb8e9ed6c49… (all of the seat's roots in one cut). By AI agents, Wed Nov 11 2026. No macro, syntax, notation, axiom, sorry.
-/
import Derived.Test.YthjhiogbnacmdaaChecked
import GoSem.Claim
import GoSem.ClaimJoined
import GoSem.ClaimMapViews
import Derived.JoinedTies
import Derived.KernelRfl
namespace Go.Proofs.Ythjhiogbnacmdaa
/- THE CELL 'sum', in the pinned program and in every row, IS THE sha256 OF THE DUMP (.gsa) THAT YthjhiogbnacmdaaProg.lean LOADS. Nothing in Lean hashes anything: it is a label: what it is worth is what the hold of that sum in a sandbox is worth. -/
noncomputable def Try.pinned : Pinned := { name := "ythjhiogbnacmdaa", sum := "dcd41fb8e9ed6c49bb97d016b3cd714345e5346aec32e9d2e67a134e811b3713", checked := Try.checked }
namespace Rows
def none {H : Type} : Left H := { results := [], args := [] }

/-- 'crosswaylaw38.AuditOwner': WHATEVER THE INPUT: true; the input reads as it did. -/
def auditOwnerSpec : ChangeSpec := { name := "auditOwner", fn := fun _ => fun
  | [d1, d2, d3] => { results := [.lit (.bool true)], args := [d1, d2, d3] }
  | _ => none }
def auditOwnerRow : OpenClaim := { program := "ythjhiogbnacmdaa", sum := "dcd41fb8e9ed6c49bb97d016b3cd714345e5346aec32e9d2e67a134e811b3713", func := "crossway/crosswaylaw38.AuditOwner", spec := "auditOwner", unfollowed := true, recurses := true, plainKeys := false, apart := false }
def AuditOwnerSaid : Prop := auditOwnerRow.holds Try.pinned (OpenSpec.ofChange auditOwnerSpec)

/-- ITS FALSE NEIGHBOUR: 'it returns false'. Refute it at one input. -/
def auditOwnerWrong : ChangeSpec := { name := "auditOwner", fn := fun _ => fun
  | [d1, d2, d3] => { results := [.lit (.bool false)], args := [d1, d2, d3] }
  | _ => none }
def AuditOwnerWrongFalsely : Prop := auditOwnerRow.holds Try.pinned (OpenSpec.ofChange auditOwnerWrong)

/-- 'crosswaylaw37.ModelHeld': WHATEVER THE INPUT: true; the input reads as it did. -/
def modelHeldSpec : ChangeSpec := { name := "modelHeld", fn := fun _ => fun
  | [d1, d2] => { results := [.lit (.bool true)], args := [d1, d2] }
  | _ => none }
def modelHeldRow : OpenClaim := { program := "ythjhiogbnacmdaa", sum := "dcd41fb8e9ed6c49bb97d016b3cd714345e5346aec32e9d2e67a134e811b3713", func := "crossway/crosswaylaw37.ModelHeld", spec := "modelHeld", unfollowed := true, recurses := true, plainKeys := false, apart := false }
def ModelHeldSaid : Prop := modelHeldRow.holds Try.pinned (OpenSpec.ofChange modelHeldSpec)

/-- ITS FALSE NEIGHBOUR: 'it returns false'. Refute it at one input. -/
def modelHeldWrong : ChangeSpec := { name := "modelHeld", fn := fun _ => fun
  | [d1, d2] => { results := [.lit (.bool false)], args := [d1, d2] }
  | _ => none }
def ModelHeldWrongFalsely : Prop := modelHeldRow.holds Try.pinned (OpenSpec.ofChange modelHeldWrong)

/-- 'crosswaylaw32.TopoChecks': WHATEVER THE INPUT: true; the input reads as it did. -/
def topoChecksSpec : ChangeSpec := { name := "topoChecks", fn := fun _ => fun
  | [d] => { results := [.lit (.bool true)], args := [d] }
  | _ => none }
def topoChecksRow : OpenClaim := { program := "ythjhiogbnacmdaa", sum := "dcd41fb8e9ed6c49bb97d016b3cd714345e5346aec32e9d2e67a134e811b3713", func := "crossway/crosswaylaw32.TopoChecks", spec := "topoChecks", unfollowed := true, recurses := true, plainKeys := false, apart := false }
def TopoChecksSaid : Prop := topoChecksRow.holds Try.pinned (OpenSpec.ofChange topoChecksSpec)

/-- ITS FALSE NEIGHBOUR: 'it returns false'. Refute it at one input. -/
def topoChecksWrong : ChangeSpec := { name := "topoChecks", fn := fun _ => fun
  | [d] => { results := [.lit (.bool false)], args := [d] }
  | _ => none }
def TopoChecksWrongFalsely : Prop := topoChecksRow.holds Try.pinned (OpenSpec.ofChange topoChecksWrong)

/-- 'crosswaylaw32.TopoFinds': WHATEVER THE INPUT: true; the input reads as it did. -/
def topoFindsSpec : ChangeSpec := { name := "topoFinds", fn := fun _ => fun
  | [d1, d2, d3] => { results := [.lit (.bool true)], args := [d1, d2, d3] }
  | _ => none }
def topoFindsRow : OpenClaim := { program := "ythjhiogbnacmdaa", sum := "dcd41fb8e9ed6c49bb97d016b3cd714345e5346aec32e9d2e67a134e811b3713", func := "crossway/crosswaylaw32.TopoFinds", spec := "topoFinds", unfollowed := true, recurses := true, plainKeys := false, apart := false }
def TopoFindsSaid : Prop := topoFindsRow.holds Try.pinned (OpenSpec.ofChange topoFindsSpec)

/-- ITS FALSE NEIGHBOUR: 'it returns false'. Refute it at one input. -/
def topoFindsWrong : ChangeSpec := { name := "topoFinds", fn := fun _ => fun
  | [d1, d2, d3] => { results := [.lit (.bool false)], args := [d1, d2, d3] }
  | _ => none }
def TopoFindsWrongFalsely : Prop := topoFindsRow.holds Try.pinned (OpenSpec.ofChange topoFindsWrong)

/- THE SECOND FORM. 'bulk': how many values and letters a reading holds, each counted each time it is reached (what is shared counts as often as it is met; a slice's spare places count too). A statement '..UptoSaid' is the law's where the arguments, and the package variables that the reading takes, are together of bulk at most 1048576: NARROWER than '..Said'. Prove '..Said' where nothing that the law and all that it calls make is longer than what came in: it says more and counts as full. Else prove '..UptoSaid'. A law counts once. -/
mutual
def uptoBulk {H : Type} : DataW H → Nat
  | .lit (.string bytes) => bytes.length + 1
  | .lit _ => 1
  | .nil => 1
  | .ptr d => uptoBulk d + 1
  | .slice elems spare => uptoBulkAll elems + uptoBulkAll spare + 1
  | .agg parts => uptoBulkAll parts + 1
  | .iface _ d => uptoBulk d + 1
  | .map entries => uptoBulkEntries entries + 1
  | .held _ => 1
def uptoBulkAll {H : Type} : List (DataW H) → Nat
  | [] => 0
  | d :: r => uptoBulk d + uptoBulkAll r
def uptoBulkEntries {H : Type} : List (Lit × DataW H) → Nat
  | [] => 0
  | x :: r => uptoBulkEntry x + uptoBulkEntries r
def uptoBulkEntry {H : Type} : Lit × DataW H → Nat
  | (.string bytes, d) => bytes.length + uptoBulk d + 1
  | (_, d) => uptoBulk d + 1
 end
def uptoSmall : (H : Type) → List (DataW H) → Bool := fun _ ds => decide (uptoBulkAll ds ≤ 1048576)
def OpenSpec.upto (s : _root_.Go.ChangeSpec) : _root_.Go.OpenSpec := { _root_.Go.OpenSpec.ofChange s with cond := some uptoSmall }

/-- 'crosswaylaw38.AuditOwner', WHERE WHAT IT READS IS OF BULK AT MOST 1048576: true; the input reads as it did. -/
def auditOwnerUptoRow : OpenClaim := { program := "ythjhiogbnacmdaa", sum := "dcd41fb8e9ed6c49bb97d016b3cd714345e5346aec32e9d2e67a134e811b3713", func := "crossway/crosswaylaw38.AuditOwner", spec := "auditOwner", unfollowed := true, recurses := true, plainKeys := false, apart := false, narrowed := true }
def AuditOwnerUptoSaid : Prop := auditOwnerUptoRow.holds Try.pinned (OpenSpec.upto auditOwnerSpec)

/-- 'crosswaylaw37.ModelHeld', WHERE WHAT IT READS IS OF BULK AT MOST 1048576: true; the input reads as it did. -/
def modelHeldUptoRow : OpenClaim := { program := "ythjhiogbnacmdaa", sum := "dcd41fb8e9ed6c49bb97d016b3cd714345e5346aec32e9d2e67a134e811b3713", func := "crossway/crosswaylaw37.ModelHeld", spec := "modelHeld", unfollowed := true, recurses := true, plainKeys := false, apart := false, narrowed := true }
def ModelHeldUptoSaid : Prop := modelHeldUptoRow.holds Try.pinned (OpenSpec.upto modelHeldSpec)

/-- 'crosswaylaw32.TopoChecks', WHERE WHAT IT READS IS OF BULK AT MOST 1048576: true; the input reads as it did. -/
def topoChecksUptoRow : OpenClaim := { program := "ythjhiogbnacmdaa", sum := "dcd41fb8e9ed6c49bb97d016b3cd714345e5346aec32e9d2e67a134e811b3713", func := "crossway/crosswaylaw32.TopoChecks", spec := "topoChecks", unfollowed := true, recurses := true, plainKeys := false, apart := false, narrowed := true }
def TopoChecksUptoSaid : Prop := topoChecksUptoRow.holds Try.pinned (OpenSpec.upto topoChecksSpec)

/-- 'crosswaylaw32.TopoFinds', WHERE WHAT IT READS IS OF BULK AT MOST 1048576: true; the input reads as it did. -/
def topoFindsUptoRow : OpenClaim := { program := "ythjhiogbnacmdaa", sum := "dcd41fb8e9ed6c49bb97d016b3cd714345e5346aec32e9d2e67a134e811b3713", func := "crossway/crosswaylaw32.TopoFinds", spec := "topoFinds", unfollowed := true, recurses := true, plainKeys := false, apart := false, narrowed := true }
def TopoFindsUptoSaid : Prop := topoFindsUptoRow.holds Try.pinned (OpenSpec.upto topoFindsSpec)

end Rows
end Go.Proofs.Ythjhiogbnacmdaa
