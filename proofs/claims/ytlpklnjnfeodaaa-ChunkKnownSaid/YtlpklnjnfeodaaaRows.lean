/-
  No cell of these rows narrows 'for every input' (looked for: loops, veiled, ifaces, maps, wideKeys, modest, calm, conditions, laid).
  DERIVED. THE GIVEN ROWS OF THIS SEAT. 9 by the template 'for every input the law returns true; each argument reads behind the call as it read before'; 0 by the template 'total and deterministic' (their statements: YtlpklnjnfeodaaaTotals.lean).
  GIVEN WITH THE SEED: the statements are not yours to turn. If you find one false, say at which input.
  Laid BY PROGRAM, IN A SANDBOX (cutbox-rows.mjs): the forced cells as the released guide's own fill.sh prints them over the translation 27838bf085eca1f8… (all of the seat's roots in one cut). By AI agents, Wed Nov 11 2026. No macro, syntax, notation, axiom, sorry.
-/
import Derived.Test.YtlpklnjnfeodaaaChecked
import GoSem.Claim
import GoSem.ClaimJoined
import GoSem.ClaimMapViews
import Derived.JoinedTies
import Derived.KernelRfl
namespace Go.Proofs.Ytlpklnjnfeodaaa
/- THE CELL 'sum', in the pinned program and in every row, IS THE sha256 OF THE DUMP (.gsa) THAT YtlpklnjnfeodaaaProg.lean LOADS. Nothing in Lean hashes anything: it is a label: what it is worth is what the hold of that sum in a sandbox is worth. -/
noncomputable def Try.pinned : Pinned := { name := "ytlpklnjnfeodaaa", sum := "27838bf085eca1f843a74aefb48ab0efdc1d69830e6a90f6e901f4731cb988c2", checked := Try.checked }
namespace Rows
def none {H : Type} : Left H := { results := [], args := [] }

/-- 'crosswaylaw04.ParamPuts': WHATEVER THE INPUT: true; the input reads as it did. -/
def paramPutsSpec : ChangeSpec := { name := "paramPuts", fn := fun _ => fun
  | [d] => { results := [.lit (.bool true)], args := [d] }
  | _ => none }
def paramPutsRow : OpenClaim := { program := "ytlpklnjnfeodaaa", sum := "27838bf085eca1f843a74aefb48ab0efdc1d69830e6a90f6e901f4731cb988c2", func := "crossway/crosswaylaw04.ParamPuts", spec := "paramPuts", inPlace := ["internal/abi.NoEscape", "internal/bytealg.MakeNoZero"], recurses := true, apart := false }
def ParamPutsSaid : Prop := paramPutsRow.holds Try.pinned (OpenSpec.ofChange paramPutsSpec)

/-- ITS FALSE NEIGHBOUR: 'it returns false'. Refute it at one input. -/
def paramPutsWrong : ChangeSpec := { name := "paramPuts", fn := fun _ => fun
  | [d] => { results := [.lit (.bool false)], args := [d] }
  | _ => none }
def ParamPutsWrongFalsely : Prop := paramPutsRow.holds Try.pinned (OpenSpec.ofChange paramPutsWrong)

/-- 'crosswaylaw04.ParamFinds': WHATEVER THE INPUT: true; the input reads as it did. -/
def paramFindsSpec : ChangeSpec := { name := "paramFinds", fn := fun _ => fun
  | [d1, d2] => { results := [.lit (.bool true)], args := [d1, d2] }
  | _ => none }
def paramFindsRow : OpenClaim := { program := "ytlpklnjnfeodaaa", sum := "27838bf085eca1f843a74aefb48ab0efdc1d69830e6a90f6e901f4731cb988c2", func := "crossway/crosswaylaw04.ParamFinds", spec := "paramFinds", inPlace := ["internal/abi.NoEscape", "internal/bytealg.MakeNoZero"], apart := false }
def ParamFindsSaid : Prop := paramFindsRow.holds Try.pinned (OpenSpec.ofChange paramFindsSpec)

/-- ITS FALSE NEIGHBOUR: 'it returns false'. Refute it at one input. -/
def paramFindsWrong : ChangeSpec := { name := "paramFinds", fn := fun _ => fun
  | [d1, d2] => { results := [.lit (.bool false)], args := [d1, d2] }
  | _ => none }
def ParamFindsWrongFalsely : Prop := paramFindsRow.holds Try.pinned (OpenSpec.ofChange paramFindsWrong)

/-- 'crosswaylaw04.ParamAsks': WHATEVER THE INPUT: true; the input reads as it did. -/
def paramAsksSpec : ChangeSpec := { name := "paramAsks", fn := fun _ => fun
  | [d1, d2, d3] => { results := [.lit (.bool true)], args := [d1, d2, d3] }
  | _ => none }
def paramAsksRow : OpenClaim := { program := "ytlpklnjnfeodaaa", sum := "27838bf085eca1f843a74aefb48ab0efdc1d69830e6a90f6e901f4731cb988c2", func := "crossway/crosswaylaw04.ParamAsks", spec := "paramAsks", inPlace := ["internal/abi.NoEscape", "internal/bytealg.MakeNoZero"], apart := false }
def ParamAsksSaid : Prop := paramAsksRow.holds Try.pinned (OpenSpec.ofChange paramAsksSpec)

/-- ITS FALSE NEIGHBOUR: 'it returns false'. Refute it at one input. -/
def paramAsksWrong : ChangeSpec := { name := "paramAsks", fn := fun _ => fun
  | [d1, d2, d3] => { results := [.lit (.bool false)], args := [d1, d2, d3] }
  | _ => none }
def ParamAsksWrongFalsely : Prop := paramAsksRow.holds Try.pinned (OpenSpec.ofChange paramAsksWrong)

/-- 'crosswaylaw04.ParamAnswers': WHATEVER THE INPUT: true; the input reads as it did. -/
def paramAnswersSpec : ChangeSpec := { name := "paramAnswers", fn := fun _ => fun
  | [d1, d2, d3] => { results := [.lit (.bool true)], args := [d1, d2, d3] }
  | _ => none }
def paramAnswersRow : OpenClaim := { program := "ytlpklnjnfeodaaa", sum := "27838bf085eca1f843a74aefb48ab0efdc1d69830e6a90f6e901f4731cb988c2", func := "crossway/crosswaylaw04.ParamAnswers", spec := "paramAnswers", inPlace := ["internal/abi.NoEscape", "internal/bytealg.MakeNoZero"], apart := false }
def ParamAnswersSaid : Prop := paramAnswersRow.holds Try.pinned (OpenSpec.ofChange paramAnswersSpec)

/-- ITS FALSE NEIGHBOUR: 'it returns false'. Refute it at one input. -/
def paramAnswersWrong : ChangeSpec := { name := "paramAnswers", fn := fun _ => fun
  | [d1, d2, d3] => { results := [.lit (.bool false)], args := [d1, d2, d3] }
  | _ => none }
def ParamAnswersWrongFalsely : Prop := paramAnswersRow.holds Try.pinned (OpenSpec.ofChange paramAnswersWrong)

/-- 'crosswaylaw04.ParamTagged': WHATEVER THE INPUT: true; the input reads as it did. -/
def paramTaggedSpec : ChangeSpec := { name := "paramTagged", fn := fun _ => fun
  | [d1, d2, d3] => { results := [.lit (.bool true)], args := [d1, d2, d3] }
  | _ => none }
def paramTaggedRow : OpenClaim := { program := "ytlpklnjnfeodaaa", sum := "27838bf085eca1f843a74aefb48ab0efdc1d69830e6a90f6e901f4731cb988c2", func := "crossway/crosswaylaw04.ParamTagged", spec := "paramTagged", inPlace := ["internal/abi.NoEscape", "internal/bytealg.MakeNoZero"], apart := false }
def ParamTaggedSaid : Prop := paramTaggedRow.holds Try.pinned (OpenSpec.ofChange paramTaggedSpec)

/-- ITS FALSE NEIGHBOUR: 'it returns false'. Refute it at one input. -/
def paramTaggedWrong : ChangeSpec := { name := "paramTagged", fn := fun _ => fun
  | [d1, d2, d3] => { results := [.lit (.bool false)], args := [d1, d2, d3] }
  | _ => none }
def ParamTaggedWrongFalsely : Prop := paramTaggedRow.holds Try.pinned (OpenSpec.ofChange paramTaggedWrong)

/-- 'crosswaylaw05.CausePuts': WHATEVER THE INPUT: true; the input reads as it did. -/
def causePutsSpec : ChangeSpec := { name := "causePuts", fn := fun _ => fun
  | [d] => { results := [.lit (.bool true)], args := [d] }
  | _ => none }
def causePutsRow : OpenClaim := { program := "ytlpklnjnfeodaaa", sum := "27838bf085eca1f843a74aefb48ab0efdc1d69830e6a90f6e901f4731cb988c2", func := "crossway/crosswaylaw05.CausePuts", spec := "causePuts", inPlace := ["internal/abi.NoEscape", "internal/bytealg.MakeNoZero"], recurses := true, apart := false }
def CausePutsSaid : Prop := causePutsRow.holds Try.pinned (OpenSpec.ofChange causePutsSpec)

/-- ITS FALSE NEIGHBOUR: 'it returns false'. Refute it at one input. -/
def causePutsWrong : ChangeSpec := { name := "causePuts", fn := fun _ => fun
  | [d] => { results := [.lit (.bool false)], args := [d] }
  | _ => none }
def CausePutsWrongFalsely : Prop := causePutsRow.holds Try.pinned (OpenSpec.ofChange causePutsWrong)

/-- 'crosswaylaw05.CauseFinds': WHATEVER THE INPUT: true; the input reads as it did. -/
def causeFindsSpec : ChangeSpec := { name := "causeFinds", fn := fun _ => fun
  | [d1, d2, d3] => { results := [.lit (.bool true)], args := [d1, d2, d3] }
  | _ => none }
def causeFindsRow : OpenClaim := { program := "ytlpklnjnfeodaaa", sum := "27838bf085eca1f843a74aefb48ab0efdc1d69830e6a90f6e901f4731cb988c2", func := "crossway/crosswaylaw05.CauseFinds", spec := "causeFinds", inPlace := ["internal/abi.NoEscape", "internal/bytealg.MakeNoZero"], recurses := true, apart := false }
def CauseFindsSaid : Prop := causeFindsRow.holds Try.pinned (OpenSpec.ofChange causeFindsSpec)

/-- ITS FALSE NEIGHBOUR: 'it returns false'. Refute it at one input. -/
def causeFindsWrong : ChangeSpec := { name := "causeFinds", fn := fun _ => fun
  | [d1, d2, d3] => { results := [.lit (.bool false)], args := [d1, d2, d3] }
  | _ => none }
def CauseFindsWrongFalsely : Prop := causeFindsRow.holds Try.pinned (OpenSpec.ofChange causeFindsWrong)

/-- 'crosswaylaw28.ReconfParams': WHATEVER THE INPUT: true; the input reads as it did. -/
def reconfParamsSpec : ChangeSpec := { name := "reconfParams", fn := fun _ => fun
  | [d1, d2, d3] => { results := [.lit (.bool true)], args := [d1, d2, d3] }
  | _ => none }
def reconfParamsRow : OpenClaim := { program := "ytlpklnjnfeodaaa", sum := "27838bf085eca1f843a74aefb48ab0efdc1d69830e6a90f6e901f4731cb988c2", func := "crossway/crosswaylaw28.ReconfParams", spec := "reconfParams", inPlace := ["internal/abi.NoEscape", "internal/bytealg.MakeNoZero"], unfollowed := true, recurses := true, apart := false }
def ReconfParamsSaid : Prop := reconfParamsRow.holds Try.pinned (OpenSpec.ofChange reconfParamsSpec)

/-- ITS FALSE NEIGHBOUR: 'it returns false'. Refute it at one input. -/
def reconfParamsWrong : ChangeSpec := { name := "reconfParams", fn := fun _ => fun
  | [d1, d2, d3] => { results := [.lit (.bool false)], args := [d1, d2, d3] }
  | _ => none }
def ReconfParamsWrongFalsely : Prop := reconfParamsRow.holds Try.pinned (OpenSpec.ofChange reconfParamsWrong)

/-- 'crosswaylaw06.ChunkKnown': WHATEVER THE INPUT: true; the input reads as it did. -/
def chunkKnownSpec : ChangeSpec := { name := "chunkKnown", fn := fun _ => fun
  | [d] => { results := [.lit (.bool true)], args := [d] }
  | _ => none }
def chunkKnownRow : OpenClaim := { program := "ytlpklnjnfeodaaa", sum := "27838bf085eca1f843a74aefb48ab0efdc1d69830e6a90f6e901f4731cb988c2", func := "crossway/crosswaylaw06.ChunkKnown", spec := "chunkKnown", inPlace := ["internal/abi.NoEscape", "internal/bytealg.MakeNoZero"], unfollowed := true, recurses := true, apart := false }
def ChunkKnownSaid : Prop := chunkKnownRow.holds Try.pinned (OpenSpec.ofChange chunkKnownSpec)

/-- ITS FALSE NEIGHBOUR: 'it returns false'. Refute it at one input. -/
def chunkKnownWrong : ChangeSpec := { name := "chunkKnown", fn := fun _ => fun
  | [d] => { results := [.lit (.bool false)], args := [d] }
  | _ => none }
def ChunkKnownWrongFalsely : Prop := chunkKnownRow.holds Try.pinned (OpenSpec.ofChange chunkKnownWrong)

/- THE SECOND FORM. 'bulk': how many values and letters a reading holds, each counted each time it is reached (what is shared counts as often as it is met; a slice's spare places count too). A statement '..UptoSaid' is the law's where the arguments, and the package variables that the reading takes, are together of bulk at most 1048576: NARROWER than '..Said'. Prove '..Said' where nothing that the law and all that it calls make is longer than what came in: it says more and counts as full. Else prove '..UptoSaid'. A law counts once. -/
mutual
def uptoBulk {H : Type} : DataW H → Nat
  | .lit (.string bytes) => bytes.length + 1
  | .lit _ => 1
  | .nil => 1
  | .ptr d => uptoBulk d + 1
  | .slice elems spare => uptoBulkAll elems + uptoBulkAll spare + 1
  | .agg parts => uptoBulkAll parts + 1
  | .iface _ d => uptoBulk d + 1
  | .map entries => uptoBulkEntries entries + 1
  | .held _ => 1
def uptoBulkAll {H : Type} : List (DataW H) → Nat
  | [] => 0
  | d :: r => uptoBulk d + uptoBulkAll r
def uptoBulkEntries {H : Type} : List (Lit × DataW H) → Nat
  | [] => 0
  | x :: r => uptoBulkEntry x + uptoBulkEntries r
def uptoBulkEntry {H : Type} : Lit × DataW H → Nat
  | (.string bytes, d) => bytes.length + uptoBulk d + 1
  | (_, d) => uptoBulk d + 1
 end
def uptoSmall : (H : Type) → List (DataW H) → Bool := fun _ ds => decide (uptoBulkAll ds ≤ 1048576)
def OpenSpec.upto (s : _root_.Go.ChangeSpec) : _root_.Go.OpenSpec := { _root_.Go.OpenSpec.ofChange s with cond := some uptoSmall }

/-- 'crosswaylaw04.ParamPuts', WHERE WHAT IT READS IS OF BULK AT MOST 1048576: true; the input reads as it did. -/
def paramPutsUptoRow : OpenClaim := { program := "ytlpklnjnfeodaaa", sum := "27838bf085eca1f843a74aefb48ab0efdc1d69830e6a90f6e901f4731cb988c2", func := "crossway/crosswaylaw04.ParamPuts", spec := "paramPuts", inPlace := ["internal/abi.NoEscape", "internal/bytealg.MakeNoZero"], recurses := true, apart := false, narrowed := true }
def ParamPutsUptoSaid : Prop := paramPutsUptoRow.holds Try.pinned (OpenSpec.upto paramPutsSpec)

/-- 'crosswaylaw04.ParamFinds', WHERE WHAT IT READS IS OF BULK AT MOST 1048576: true; the input reads as it did. -/
def paramFindsUptoRow : OpenClaim := { program := "ytlpklnjnfeodaaa", sum := "27838bf085eca1f843a74aefb48ab0efdc1d69830e6a90f6e901f4731cb988c2", func := "crossway/crosswaylaw04.ParamFinds", spec := "paramFinds", inPlace := ["internal/abi.NoEscape", "internal/bytealg.MakeNoZero"], apart := false, narrowed := true }
def ParamFindsUptoSaid : Prop := paramFindsUptoRow.holds Try.pinned (OpenSpec.upto paramFindsSpec)

/-- 'crosswaylaw04.ParamAsks', WHERE WHAT IT READS IS OF BULK AT MOST 1048576: true; the input reads as it did. -/
def paramAsksUptoRow : OpenClaim := { program := "ytlpklnjnfeodaaa", sum := "27838bf085eca1f843a74aefb48ab0efdc1d69830e6a90f6e901f4731cb988c2", func := "crossway/crosswaylaw04.ParamAsks", spec := "paramAsks", inPlace := ["internal/abi.NoEscape", "internal/bytealg.MakeNoZero"], apart := false, narrowed := true }
def ParamAsksUptoSaid : Prop := paramAsksUptoRow.holds Try.pinned (OpenSpec.upto paramAsksSpec)

/-- 'crosswaylaw04.ParamAnswers', WHERE WHAT IT READS IS OF BULK AT MOST 1048576: true; the input reads as it did. -/
def paramAnswersUptoRow : OpenClaim := { program := "ytlpklnjnfeodaaa", sum := "27838bf085eca1f843a74aefb48ab0efdc1d69830e6a90f6e901f4731cb988c2", func := "crossway/crosswaylaw04.ParamAnswers", spec := "paramAnswers", inPlace := ["internal/abi.NoEscape", "internal/bytealg.MakeNoZero"], apart := false, narrowed := true }
def ParamAnswersUptoSaid : Prop := paramAnswersUptoRow.holds Try.pinned (OpenSpec.upto paramAnswersSpec)

/-- 'crosswaylaw04.ParamTagged', WHERE WHAT IT READS IS OF BULK AT MOST 1048576: true; the input reads as it did. -/
def paramTaggedUptoRow : OpenClaim := { program := "ytlpklnjnfeodaaa", sum := "27838bf085eca1f843a74aefb48ab0efdc1d69830e6a90f6e901f4731cb988c2", func := "crossway/crosswaylaw04.ParamTagged", spec := "paramTagged", inPlace := ["internal/abi.NoEscape", "internal/bytealg.MakeNoZero"], apart := false, narrowed := true }
def ParamTaggedUptoSaid : Prop := paramTaggedUptoRow.holds Try.pinned (OpenSpec.upto paramTaggedSpec)

/-- 'crosswaylaw05.CausePuts', WHERE WHAT IT READS IS OF BULK AT MOST 1048576: true; the input reads as it did. -/
def causePutsUptoRow : OpenClaim := { program := "ytlpklnjnfeodaaa", sum := "27838bf085eca1f843a74aefb48ab0efdc1d69830e6a90f6e901f4731cb988c2", func := "crossway/crosswaylaw05.CausePuts", spec := "causePuts", inPlace := ["internal/abi.NoEscape", "internal/bytealg.MakeNoZero"], recurses := true, apart := false, narrowed := true }
def CausePutsUptoSaid : Prop := causePutsUptoRow.holds Try.pinned (OpenSpec.upto causePutsSpec)

/-- 'crosswaylaw05.CauseFinds', WHERE WHAT IT READS IS OF BULK AT MOST 1048576: true; the input reads as it did. -/
def causeFindsUptoRow : OpenClaim := { program := "ytlpklnjnfeodaaa", sum := "27838bf085eca1f843a74aefb48ab0efdc1d69830e6a90f6e901f4731cb988c2", func := "crossway/crosswaylaw05.CauseFinds", spec := "causeFinds", inPlace := ["internal/abi.NoEscape", "internal/bytealg.MakeNoZero"], recurses := true, apart := false, narrowed := true }
def CauseFindsUptoSaid : Prop := causeFindsUptoRow.holds Try.pinned (OpenSpec.upto causeFindsSpec)

/-- 'crosswaylaw28.ReconfParams', WHERE WHAT IT READS IS OF BULK AT MOST 1048576: true; the input reads as it did. -/
def reconfParamsUptoRow : OpenClaim := { program := "ytlpklnjnfeodaaa", sum := "27838bf085eca1f843a74aefb48ab0efdc1d69830e6a90f6e901f4731cb988c2", func := "crossway/crosswaylaw28.ReconfParams", spec := "reconfParams", inPlace := ["internal/abi.NoEscape", "internal/bytealg.MakeNoZero"], unfollowed := true, recurses := true, apart := false, narrowed := true }
def ReconfParamsUptoSaid : Prop := reconfParamsUptoRow.holds Try.pinned (OpenSpec.upto reconfParamsSpec)

/-- 'crosswaylaw06.ChunkKnown', WHERE WHAT IT READS IS OF BULK AT MOST 1048576: true; the input reads as it did. -/
def chunkKnownUptoRow : OpenClaim := { program := "ytlpklnjnfeodaaa", sum := "27838bf085eca1f843a74aefb48ab0efdc1d69830e6a90f6e901f4731cb988c2", func := "crossway/crosswaylaw06.ChunkKnown", spec := "chunkKnown", inPlace := ["internal/abi.NoEscape", "internal/bytealg.MakeNoZero"], unfollowed := true, recurses := true, apart := false, narrowed := true }
def ChunkKnownUptoSaid : Prop := chunkKnownUptoRow.holds Try.pinned (OpenSpec.upto chunkKnownSpec)

end Rows
end Go.Proofs.Ytlpklnjnfeodaaa
