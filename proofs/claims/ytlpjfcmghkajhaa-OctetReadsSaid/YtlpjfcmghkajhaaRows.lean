/-
  No cell of these rows narrows 'for every input' (looked for: loops, veiled, ifaces, maps, wideKeys, modest, calm, conditions, laid).
  DERIVED. THE GIVEN ROWS OF THIS SEAT. 7 by the template 'for every input the law returns true; each argument reads behind the call as it read before'; 0 by the template 'total and deterministic' (their statements: YtlpjfcmghkajhaaTotals.lean).
  GIVEN WITH THE SEED: the statements are not yours to turn. If you find one false, say at which input.
  Laid BY PROGRAM, IN A SANDBOX (cutbox-rows.mjs): the forced cells as the released guide's own fill.sh prints them over the translation 8f169521b8296da4… (all of the seat's roots in one cut). By AI agents, Wed Nov 11 2026. No macro, syntax, notation, axiom, sorry.
-/
import Derived.Test.YtlpjfcmghkajhaaChecked
import GoSem.Claim
import GoSem.ClaimJoined
import GoSem.ClaimMapViews
import Derived.JoinedTies
import Derived.KernelRfl
namespace Go.Proofs.Ytlpjfcmghkajhaa
/- THE CELL 'sum', in the pinned program and in every row, IS THE sha256 OF THE DUMP (.gsa) THAT YtlpjfcmghkajhaaProg.lean LOADS. Nothing in Lean hashes anything: it is a label: what it is worth is what the hold of that sum in a sandbox is worth. -/
noncomputable def Try.pinned : Pinned := { name := "ytlpjfcmghkajhaa", sum := "8f169521b8296da4074f1ac53debf4ea392b1a0d0d86e1a1654f12bac12e4700", checked := Try.checked }
namespace Rows
def none {H : Type} : Left H := { results := [], args := [] }

/-- 'crosswaylaw01.SerialLess': WHATEVER THE INPUT: true; the input reads as it did. -/
def serialLessSpec : ChangeSpec := { name := "serialLess", fn := fun _ => fun
  | [d1, d2] => { results := [.lit (.bool true)], args := [d1, d2] }
  | _ => none }
def serialLessRow : OpenClaim := { program := "ytlpjfcmghkajhaa", sum := "8f169521b8296da4074f1ac53debf4ea392b1a0d0d86e1a1654f12bac12e4700", func := "crossway/crosswaylaw01.SerialLess", spec := "serialLess", apart := false }
def SerialLessSaid : Prop := serialLessRow.holds Try.pinned (OpenSpec.ofChange serialLessSpec)

/-- ITS FALSE NEIGHBOUR: 'it returns false'. Refute it at one input. -/
def serialLessWrong : ChangeSpec := { name := "serialLess", fn := fun _ => fun
  | [d1, d2] => { results := [.lit (.bool false)], args := [d1, d2] }
  | _ => none }
def SerialLessWrongFalsely : Prop := serialLessRow.holds Try.pinned (OpenSpec.ofChange serialLessWrong)

/-- 'crosswaylaw01.SerialDiff': WHATEVER THE INPUT: true; the input reads as it did. -/
def serialDiffSpec : ChangeSpec := { name := "serialDiff", fn := fun _ => fun
  | [d1, d2] => { results := [.lit (.bool true)], args := [d1, d2] }
  | _ => none }
def serialDiffRow : OpenClaim := { program := "ytlpjfcmghkajhaa", sum := "8f169521b8296da4074f1ac53debf4ea392b1a0d0d86e1a1654f12bac12e4700", func := "crossway/crosswaylaw01.SerialDiff", spec := "serialDiff", apart := false }
def SerialDiffSaid : Prop := serialDiffRow.holds Try.pinned (OpenSpec.ofChange serialDiffSpec)

/-- ITS FALSE NEIGHBOUR: 'it returns false'. Refute it at one input. -/
def serialDiffWrong : ChangeSpec := { name := "serialDiff", fn := fun _ => fun
  | [d1, d2] => { results := [.lit (.bool false)], args := [d1, d2] }
  | _ => none }
def SerialDiffWrongFalsely : Prop := serialDiffRow.holds Try.pinned (OpenSpec.ofChange serialDiffWrong)

/-- 'crosswaylaw01.SerialBetween': WHATEVER THE INPUT: true; the input reads as it did. -/
def serialBetweenSpec : ChangeSpec := { name := "serialBetween", fn := fun _ => fun
  | [d1, d2, d3] => { results := [.lit (.bool true)], args := [d1, d2, d3] }
  | _ => none }
def serialBetweenRow : OpenClaim := { program := "ytlpjfcmghkajhaa", sum := "8f169521b8296da4074f1ac53debf4ea392b1a0d0d86e1a1654f12bac12e4700", func := "crossway/crosswaylaw01.SerialBetween", spec := "serialBetween", apart := false }
def SerialBetweenSaid : Prop := serialBetweenRow.holds Try.pinned (OpenSpec.ofChange serialBetweenSpec)

/-- ITS FALSE NEIGHBOUR: 'it returns false'. Refute it at one input. -/
def serialBetweenWrong : ChangeSpec := { name := "serialBetween", fn := fun _ => fun
  | [d1, d2, d3] => { results := [.lit (.bool false)], args := [d1, d2, d3] }
  | _ => none }
def SerialBetweenWrongFalsely : Prop := serialBetweenRow.holds Try.pinned (OpenSpec.ofChange serialBetweenWrong)

/-- 'crosswaylaw01.SerialWords': WHATEVER THE INPUT: true; the input reads as it did. -/
def serialWordsSpec : ChangeSpec := { name := "serialWords", fn := fun _ => fun
  | [d1, d2, d3] => { results := [.lit (.bool true)], args := [d1, d2, d3] }
  | _ => none }
def serialWordsRow : OpenClaim := { program := "ytlpjfcmghkajhaa", sum := "8f169521b8296da4074f1ac53debf4ea392b1a0d0d86e1a1654f12bac12e4700", func := "crossway/crosswaylaw01.SerialWords", spec := "serialWords", apart := false }
def SerialWordsSaid : Prop := serialWordsRow.holds Try.pinned (OpenSpec.ofChange serialWordsSpec)

/-- ITS FALSE NEIGHBOUR: 'it returns false'. Refute it at one input. -/
def serialWordsWrong : ChangeSpec := { name := "serialWords", fn := fun _ => fun
  | [d1, d2, d3] => { results := [.lit (.bool false)], args := [d1, d2, d3] }
  | _ => none }
def SerialWordsWrongFalsely : Prop := serialWordsRow.holds Try.pinned (OpenSpec.ofChange serialWordsWrong)

/-- 'crosswaylaw03.OctetPuts': WHATEVER THE INPUT: true; the input reads as it did. -/
def octetPutsSpec : ChangeSpec := { name := "octetPuts", fn := fun _ => fun
  | [d1, d2] => { results := [.lit (.bool true)], args := [d1, d2] }
  | _ => none }
def octetPutsRow : OpenClaim := { program := "ytlpjfcmghkajhaa", sum := "8f169521b8296da4074f1ac53debf4ea392b1a0d0d86e1a1654f12bac12e4700", func := "crossway/crosswaylaw03.OctetPuts", spec := "octetPuts", inPlace := ["internal/abi.NoEscape", "internal/bytealg.MakeNoZero"], recurses := true, apart := false }
def OctetPutsSaid : Prop := octetPutsRow.holds Try.pinned (OpenSpec.ofChange octetPutsSpec)

/-- ITS FALSE NEIGHBOUR: 'it returns false'. Refute it at one input. -/
def octetPutsWrong : ChangeSpec := { name := "octetPuts", fn := fun _ => fun
  | [d1, d2] => { results := [.lit (.bool false)], args := [d1, d2] }
  | _ => none }
def OctetPutsWrongFalsely : Prop := octetPutsRow.holds Try.pinned (OpenSpec.ofChange octetPutsWrong)

/-- 'crosswaylaw03.OctetReads': WHATEVER THE INPUT: true; the input reads as it did. -/
def octetReadsSpec : ChangeSpec := { name := "octetReads", fn := fun _ => fun
  | [d1, d2] => { results := [.lit (.bool true)], args := [d1, d2] }
  | _ => none }
def octetReadsRow : OpenClaim := { program := "ytlpjfcmghkajhaa", sum := "8f169521b8296da4074f1ac53debf4ea392b1a0d0d86e1a1654f12bac12e4700", func := "crossway/crosswaylaw03.OctetReads", spec := "octetReads", inPlace := ["internal/abi.NoEscape", "internal/bytealg.MakeNoZero"], apart := false }
def OctetReadsSaid : Prop := octetReadsRow.holds Try.pinned (OpenSpec.ofChange octetReadsSpec)

/-- ITS FALSE NEIGHBOUR: 'it returns false'. Refute it at one input. -/
def octetReadsWrong : ChangeSpec := { name := "octetReads", fn := fun _ => fun
  | [d1, d2] => { results := [.lit (.bool false)], args := [d1, d2] }
  | _ => none }
def OctetReadsWrongFalsely : Prop := octetReadsRow.holds Try.pinned (OpenSpec.ofChange octetReadsWrong)

/-- 'crosswaylaw03.OctetNone': WHATEVER THE INPUT: true; the input reads as it did. -/
def octetNoneSpec : ChangeSpec := { name := "octetNone", fn := fun _ => fun
  | [d] => { results := [.lit (.bool true)], args := [d] }
  | _ => none }
def octetNoneRow : OpenClaim := { program := "ytlpjfcmghkajhaa", sum := "8f169521b8296da4074f1ac53debf4ea392b1a0d0d86e1a1654f12bac12e4700", func := "crossway/crosswaylaw03.OctetNone", spec := "octetNone", inPlace := ["internal/abi.NoEscape", "internal/bytealg.MakeNoZero"], apart := false }
def OctetNoneSaid : Prop := octetNoneRow.holds Try.pinned (OpenSpec.ofChange octetNoneSpec)

/-- ITS FALSE NEIGHBOUR: 'it returns false'. Refute it at one input. -/
def octetNoneWrong : ChangeSpec := { name := "octetNone", fn := fun _ => fun
  | [d] => { results := [.lit (.bool false)], args := [d] }
  | _ => none }
def OctetNoneWrongFalsely : Prop := octetNoneRow.holds Try.pinned (OpenSpec.ofChange octetNoneWrong)

/- THE SECOND FORM. 'bulk': how many values and letters a reading holds, each counted each time it is reached (what is shared counts as often as it is met; a slice's spare places count too). A statement '..UptoSaid' is the law's where the arguments, and the package variables that the reading takes, are together of bulk at most 1048576: NARROWER than '..Said'. Prove '..Said' where nothing that the law and all that it calls make is longer than what came in: it says more and counts as full. Else prove '..UptoSaid'. A law counts once. -/
mutual
def uptoBulk {H : Type} : DataW H → Nat
  | .lit (.string bytes) => bytes.length + 1
  | .lit _ => 1
  | .nil => 1
  | .ptr d => uptoBulk d + 1
  | .slice elems spare => uptoBulkAll elems + uptoBulkAll spare + 1
  | .agg parts => uptoBulkAll parts + 1
  | .iface _ d => uptoBulk d + 1
  | .map entries => uptoBulkEntries entries + 1
  | .held _ => 1
def uptoBulkAll {H : Type} : List (DataW H) → Nat
  | [] => 0
  | d :: r => uptoBulk d + uptoBulkAll r
def uptoBulkEntries {H : Type} : List (Lit × DataW H) → Nat
  | [] => 0
  | x :: r => uptoBulkEntry x + uptoBulkEntries r
def uptoBulkEntry {H : Type} : Lit × DataW H → Nat
  | (.string bytes, d) => bytes.length + uptoBulk d + 1
  | (_, d) => uptoBulk d + 1
 end
def uptoSmall : (H : Type) → List (DataW H) → Bool := fun _ ds => decide (uptoBulkAll ds ≤ 1048576)
def OpenSpec.upto (s : _root_.Go.ChangeSpec) : _root_.Go.OpenSpec := { _root_.Go.OpenSpec.ofChange s with cond := some uptoSmall }

/-- 'crosswaylaw01.SerialLess', WHERE WHAT IT READS IS OF BULK AT MOST 1048576: true; the input reads as it did. -/
def serialLessUptoRow : OpenClaim := { program := "ytlpjfcmghkajhaa", sum := "8f169521b8296da4074f1ac53debf4ea392b1a0d0d86e1a1654f12bac12e4700", func := "crossway/crosswaylaw01.SerialLess", spec := "serialLess", apart := false, narrowed := true }
def SerialLessUptoSaid : Prop := serialLessUptoRow.holds Try.pinned (OpenSpec.upto serialLessSpec)

/-- 'crosswaylaw01.SerialDiff', WHERE WHAT IT READS IS OF BULK AT MOST 1048576: true; the input reads as it did. -/
def serialDiffUptoRow : OpenClaim := { program := "ytlpjfcmghkajhaa", sum := "8f169521b8296da4074f1ac53debf4ea392b1a0d0d86e1a1654f12bac12e4700", func := "crossway/crosswaylaw01.SerialDiff", spec := "serialDiff", apart := false, narrowed := true }
def SerialDiffUptoSaid : Prop := serialDiffUptoRow.holds Try.pinned (OpenSpec.upto serialDiffSpec)

/-- 'crosswaylaw01.SerialBetween', WHERE WHAT IT READS IS OF BULK AT MOST 1048576: true; the input reads as it did. -/
def serialBetweenUptoRow : OpenClaim := { program := "ytlpjfcmghkajhaa", sum := "8f169521b8296da4074f1ac53debf4ea392b1a0d0d86e1a1654f12bac12e4700", func := "crossway/crosswaylaw01.SerialBetween", spec := "serialBetween", apart := false, narrowed := true }
def SerialBetweenUptoSaid : Prop := serialBetweenUptoRow.holds Try.pinned (OpenSpec.upto serialBetweenSpec)

/-- 'crosswaylaw01.SerialWords', WHERE WHAT IT READS IS OF BULK AT MOST 1048576: true; the input reads as it did. -/
def serialWordsUptoRow : OpenClaim := { program := "ytlpjfcmghkajhaa", sum := "8f169521b8296da4074f1ac53debf4ea392b1a0d0d86e1a1654f12bac12e4700", func := "crossway/crosswaylaw01.SerialWords", spec := "serialWords", apart := false, narrowed := true }
def SerialWordsUptoSaid : Prop := serialWordsUptoRow.holds Try.pinned (OpenSpec.upto serialWordsSpec)

/-- 'crosswaylaw03.OctetPuts', WHERE WHAT IT READS IS OF BULK AT MOST 1048576: true; the input reads as it did. -/
def octetPutsUptoRow : OpenClaim := { program := "ytlpjfcmghkajhaa", sum := "8f169521b8296da4074f1ac53debf4ea392b1a0d0d86e1a1654f12bac12e4700", func := "crossway/crosswaylaw03.OctetPuts", spec := "octetPuts", inPlace := ["internal/abi.NoEscape", "internal/bytealg.MakeNoZero"], recurses := true, apart := false, narrowed := true }
def OctetPutsUptoSaid : Prop := octetPutsUptoRow.holds Try.pinned (OpenSpec.upto octetPutsSpec)

/-- 'crosswaylaw03.OctetReads', WHERE WHAT IT READS IS OF BULK AT MOST 1048576: true; the input reads as it did. -/
def octetReadsUptoRow : OpenClaim := { program := "ytlpjfcmghkajhaa", sum := "8f169521b8296da4074f1ac53debf4ea392b1a0d0d86e1a1654f12bac12e4700", func := "crossway/crosswaylaw03.OctetReads", spec := "octetReads", inPlace := ["internal/abi.NoEscape", "internal/bytealg.MakeNoZero"], apart := false, narrowed := true }
def OctetReadsUptoSaid : Prop := octetReadsUptoRow.holds Try.pinned (OpenSpec.upto octetReadsSpec)

/-- 'crosswaylaw03.OctetNone', WHERE WHAT IT READS IS OF BULK AT MOST 1048576: true; the input reads as it did. -/
def octetNoneUptoRow : OpenClaim := { program := "ytlpjfcmghkajhaa", sum := "8f169521b8296da4074f1ac53debf4ea392b1a0d0d86e1a1654f12bac12e4700", func := "crossway/crosswaylaw03.OctetNone", spec := "octetNone", inPlace := ["internal/abi.NoEscape", "internal/bytealg.MakeNoZero"], apart := false, narrowed := true }
def OctetNoneUptoSaid : Prop := octetNoneUptoRow.holds Try.pinned (OpenSpec.upto octetNoneSpec)

end Rows
end Go.Proofs.Ytlpjfcmghkajhaa
