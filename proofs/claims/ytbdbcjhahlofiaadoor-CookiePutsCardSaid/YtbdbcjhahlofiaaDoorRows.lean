/-
  NARROWER THAN 'FOR EVERY INPUT', by the rows' own cells (each row's printed sentence says how): CookiePuts: laid · CookieGets: laid · CookieBent: laid · AuthKey: laid.
  DERIVED. THE GIVEN ROWS OF THIS SEAT. 4 by the template 'for every input the law returns true; each argument reads behind the call as it read before'; 0 by the template 'total and deterministic' (their statements: YtbdbcjhahlofiaaDoorTotals.lean).
  GIVEN WITH THE SEED: the statements are not yours to turn. If you find one false, say at which input.
  Laid BY PROGRAM, IN A SANDBOX (cutbox-rows.mjs): the forced cells as the released guide's own fill.sh prints them over the translation 00005dfd574786ac… (all of the seat's roots in one cut). By AI agents, Wed Nov 11 2026. No macro, syntax, notation, axiom, sorry.
-/
import Derived.Test.YtbdbcjhahlofiaaDoorChecked
import GoSem.Claim
import GoSem.ClaimJoined
import GoSem.ClaimMapViews
import Derived.JoinedTies
import Derived.KernelRfl
namespace Go.Proofs.YtbdbcjhahlofiaaDoor
/- THE CELL 'sum', in the pinned program and in every row, IS THE sha256 OF THE DUMP (.gsa) THAT YtbdbcjhahlofiaaDoorProg.lean LOADS. Nothing in Lean hashes anything: it is a label: what it is worth is what the hold of that sum in a sandbox is worth. -/
noncomputable def Tryd.pinned : Pinned := { name := "ytbdbcjhahlofiaadoor", sum := "00005dfd574786ac6f8dcbeafbed5aafbcc3108f38f6ff977535749fbd25fe2c", checked := Tryd.checked }
namespace Rows
def none {H : Type} : Left H := { results := [], args := [] }

/- WHAT THE LISTED PACKAGE-LEVEL VARIABLES READ AS WHEN THE CALL BEGINS. Each datum BY PROGRAM (the guide's laid-datum.mjs) off the statement by which the dump's own 'gosem.cut.vars' lays the variable. In a bare row this is a premise. The card (YtbdbcjhahlofiaaDoorCards.lean) ties it to the program's text. -/
def laid_crossway_digest_starts {H : Type} : DataW H := .agg [.lit (.int .u32 1732584193), .lit (.int .u32 4023233417), .lit (.int .u32 2562383102), .lit (.int .u32 271733878), .lit (.int .u32 3285377520)]
def laid_crossway_digest_added {H : Type} : DataW H := .agg [.lit (.int .u32 1518500249), .lit (.int .u32 1859775393), .lit (.int .u32 2400959708), .lit (.int .u32 3395469782)]

/-- 'crosswaylaw10.CookiePuts': WHATEVER THE INPUT: true; the input reads as it did. -/
def cookiePutsSpec : ChangeSpec := { name := "cookiePuts", fn := fun _ => fun
  | [d1, d2, d3] => { results := [.lit (.bool true)], args := [d1, d2, d3] }
  | _ => none }
def cookiePutsRow : OpenClaim := { program := "ytbdbcjhahlofiaadoor", sum := "00005dfd574786ac6f8dcbeafbed5aafbcc3108f38f6ff977535749fbd25fe2c", func := "crossway/crosswaylaw10.CookiePuts", spec := "cookiePuts", inPlace := ["internal/abi.NoEscape", "internal/bytealg.MakeNoZero"], recurses := true, named := ["crossway/digest.starts", "crossway/digest.added"], apart := false, laid := [("crossway/digest.starts", laid_crossway_digest_starts), ("crossway/digest.added", laid_crossway_digest_added)] }
def CookiePutsSaid : Prop := cookiePutsRow.holds Tryd.pinned (OpenSpec.ofChange cookiePutsSpec)

/-- ITS FALSE NEIGHBOUR: 'it returns false'. Refute it at one input. -/
def cookiePutsWrong : ChangeSpec := { name := "cookiePuts", fn := fun _ => fun
  | [d1, d2, d3] => { results := [.lit (.bool false)], args := [d1, d2, d3] }
  | _ => none }
def CookiePutsWrongFalsely : Prop := cookiePutsRow.holds Tryd.pinned (OpenSpec.ofChange cookiePutsWrong)

/-- 'crosswaylaw10.CookieGets': WHATEVER THE INPUT: true; the input reads as it did. -/
def cookieGetsSpec : ChangeSpec := { name := "cookieGets", fn := fun _ => fun
  | [d1, d2, d3] => { results := [.lit (.bool true)], args := [d1, d2, d3] }
  | _ => none }
def cookieGetsRow : OpenClaim := { program := "ytbdbcjhahlofiaadoor", sum := "00005dfd574786ac6f8dcbeafbed5aafbcc3108f38f6ff977535749fbd25fe2c", func := "crossway/crosswaylaw10.CookieGets", spec := "cookieGets", inPlace := ["internal/abi.NoEscape", "internal/bytealg.MakeNoZero"], recurses := true, named := ["crossway/digest.starts", "crossway/digest.added"], apart := false, laid := [("crossway/digest.starts", laid_crossway_digest_starts), ("crossway/digest.added", laid_crossway_digest_added)] }
def CookieGetsSaid : Prop := cookieGetsRow.holds Tryd.pinned (OpenSpec.ofChange cookieGetsSpec)

/-- ITS FALSE NEIGHBOUR: 'it returns false'. Refute it at one input. -/
def cookieGetsWrong : ChangeSpec := { name := "cookieGets", fn := fun _ => fun
  | [d1, d2, d3] => { results := [.lit (.bool false)], args := [d1, d2, d3] }
  | _ => none }
def CookieGetsWrongFalsely : Prop := cookieGetsRow.holds Tryd.pinned (OpenSpec.ofChange cookieGetsWrong)

/-- 'crosswaylaw10.CookieBent': WHATEVER THE INPUT: true; the input reads as it did. -/
def cookieBentSpec : ChangeSpec := { name := "cookieBent", fn := fun _ => fun
  | [d1, d2, d3] => { results := [.lit (.bool true)], args := [d1, d2, d3] }
  | _ => none }
def cookieBentRow : OpenClaim := { program := "ytbdbcjhahlofiaadoor", sum := "00005dfd574786ac6f8dcbeafbed5aafbcc3108f38f6ff977535749fbd25fe2c", func := "crossway/crosswaylaw10.CookieBent", spec := "cookieBent", inPlace := ["internal/abi.NoEscape", "internal/bytealg.MakeNoZero"], named := ["crossway/digest.starts", "crossway/digest.added"], apart := false, laid := [("crossway/digest.starts", laid_crossway_digest_starts), ("crossway/digest.added", laid_crossway_digest_added)] }
def CookieBentSaid : Prop := cookieBentRow.holds Tryd.pinned (OpenSpec.ofChange cookieBentSpec)

/-- ITS FALSE NEIGHBOUR: 'it returns false'. Refute it at one input. -/
def cookieBentWrong : ChangeSpec := { name := "cookieBent", fn := fun _ => fun
  | [d1, d2, d3] => { results := [.lit (.bool false)], args := [d1, d2, d3] }
  | _ => none }
def CookieBentWrongFalsely : Prop := cookieBentRow.holds Tryd.pinned (OpenSpec.ofChange cookieBentWrong)

/-- 'crosswaylaw27.AuthKey': WHATEVER THE INPUT: true; the input reads as it did. -/
def authKeySpec : ChangeSpec := { name := "authKey", fn := fun _ => fun
  | [d1, d2] => { results := [.lit (.bool true)], args := [d1, d2] }
  | _ => none }
def authKeyRow : OpenClaim := { program := "ytbdbcjhahlofiaadoor", sum := "00005dfd574786ac6f8dcbeafbed5aafbcc3108f38f6ff977535749fbd25fe2c", func := "crossway/crosswaylaw27.AuthKey", spec := "authKey", inPlace := ["internal/abi.NoEscape", "internal/bytealg.MakeNoZero"], unfollowed := true, recurses := true, named := ["crossway/digest.starts", "crossway/digest.added"], apart := false, laid := [("crossway/digest.starts", laid_crossway_digest_starts), ("crossway/digest.added", laid_crossway_digest_added)] }
def AuthKeySaid : Prop := authKeyRow.holds Tryd.pinned (OpenSpec.ofChange authKeySpec)

/-- ITS FALSE NEIGHBOUR: 'it returns false'. Refute it at one input. -/
def authKeyWrong : ChangeSpec := { name := "authKey", fn := fun _ => fun
  | [d1, d2] => { results := [.lit (.bool false)], args := [d1, d2] }
  | _ => none }
def AuthKeyWrongFalsely : Prop := authKeyRow.holds Tryd.pinned (OpenSpec.ofChange authKeyWrong)

/- THE SECOND FORM. 'bulk': how many values and letters a reading holds, each counted each time it is reached (what is shared counts as often as it is met; a slice's spare places count too). A statement '..UptoSaid' is the law's where the arguments, and the package variables that the reading takes, are together of bulk at most 1048576: NARROWER than '..Said'. Prove '..Said' where nothing that the law and all that it calls make is longer than what came in: it says more and counts as full. Else prove '..UptoSaid'. A law counts once. -/
mutual
def uptoBulk {H : Type} : DataW H → Nat
  | .lit (.string bytes) => bytes.length + 1
  | .lit _ => 1
  | .nil => 1
  | .ptr d => uptoBulk d + 1
  | .slice elems spare => uptoBulkAll elems + uptoBulkAll spare + 1
  | .agg parts => uptoBulkAll parts + 1
  | .iface _ d => uptoBulk d + 1
  | .map entries => uptoBulkEntries entries + 1
  | .held _ => 1
def uptoBulkAll {H : Type} : List (DataW H) → Nat
  | [] => 0
  | d :: r => uptoBulk d + uptoBulkAll r
def uptoBulkEntries {H : Type} : List (Lit × DataW H) → Nat
  | [] => 0
  | x :: r => uptoBulkEntry x + uptoBulkEntries r
def uptoBulkEntry {H : Type} : Lit × DataW H → Nat
  | (.string bytes, d) => bytes.length + uptoBulk d + 1
  | (_, d) => uptoBulk d + 1
 end
def uptoSmall : (H : Type) → List (DataW H) → Bool := fun _ ds => decide (uptoBulkAll ds ≤ 1048576)
def OpenSpec.upto (s : _root_.Go.ChangeSpec) : _root_.Go.OpenSpec := { _root_.Go.OpenSpec.ofChange s with cond := some uptoSmall }

/-- 'crosswaylaw10.CookiePuts', WHERE WHAT IT READS IS OF BULK AT MOST 1048576: true; the input reads as it did. -/
def cookiePutsUptoRow : OpenClaim := { program := "ytbdbcjhahlofiaadoor", sum := "00005dfd574786ac6f8dcbeafbed5aafbcc3108f38f6ff977535749fbd25fe2c", func := "crossway/crosswaylaw10.CookiePuts", spec := "cookiePuts", inPlace := ["internal/abi.NoEscape", "internal/bytealg.MakeNoZero"], recurses := true, named := ["crossway/digest.starts", "crossway/digest.added"], apart := false, laid := [("crossway/digest.starts", laid_crossway_digest_starts), ("crossway/digest.added", laid_crossway_digest_added)], narrowed := true }
def CookiePutsUptoSaid : Prop := cookiePutsUptoRow.holds Tryd.pinned (OpenSpec.upto cookiePutsSpec)

/-- 'crosswaylaw10.CookieGets', WHERE WHAT IT READS IS OF BULK AT MOST 1048576: true; the input reads as it did. -/
def cookieGetsUptoRow : OpenClaim := { program := "ytbdbcjhahlofiaadoor", sum := "00005dfd574786ac6f8dcbeafbed5aafbcc3108f38f6ff977535749fbd25fe2c", func := "crossway/crosswaylaw10.CookieGets", spec := "cookieGets", inPlace := ["internal/abi.NoEscape", "internal/bytealg.MakeNoZero"], recurses := true, named := ["crossway/digest.starts", "crossway/digest.added"], apart := false, laid := [("crossway/digest.starts", laid_crossway_digest_starts), ("crossway/digest.added", laid_crossway_digest_added)], narrowed := true }
def CookieGetsUptoSaid : Prop := cookieGetsUptoRow.holds Tryd.pinned (OpenSpec.upto cookieGetsSpec)

/-- 'crosswaylaw10.CookieBent', WHERE WHAT IT READS IS OF BULK AT MOST 1048576: true; the input reads as it did. -/
def cookieBentUptoRow : OpenClaim := { program := "ytbdbcjhahlofiaadoor", sum := "00005dfd574786ac6f8dcbeafbed5aafbcc3108f38f6ff977535749fbd25fe2c", func := "crossway/crosswaylaw10.CookieBent", spec := "cookieBent", inPlace := ["internal/abi.NoEscape", "internal/bytealg.MakeNoZero"], named := ["crossway/digest.starts", "crossway/digest.added"], apart := false, laid := [("crossway/digest.starts", laid_crossway_digest_starts), ("crossway/digest.added", laid_crossway_digest_added)], narrowed := true }
def CookieBentUptoSaid : Prop := cookieBentUptoRow.holds Tryd.pinned (OpenSpec.upto cookieBentSpec)

/-- 'crosswaylaw27.AuthKey', WHERE WHAT IT READS IS OF BULK AT MOST 1048576: true; the input reads as it did. -/
def authKeyUptoRow : OpenClaim := { program := "ytbdbcjhahlofiaadoor", sum := "00005dfd574786ac6f8dcbeafbed5aafbcc3108f38f6ff977535749fbd25fe2c", func := "crossway/crosswaylaw27.AuthKey", spec := "authKey", inPlace := ["internal/abi.NoEscape", "internal/bytealg.MakeNoZero"], unfollowed := true, recurses := true, named := ["crossway/digest.starts", "crossway/digest.added"], apart := false, laid := [("crossway/digest.starts", laid_crossway_digest_starts), ("crossway/digest.added", laid_crossway_digest_added)], narrowed := true }
def AuthKeyUptoSaid : Prop := authKeyUptoRow.holds Tryd.pinned (OpenSpec.upto authKeySpec)

end Rows
end Go.Proofs.YtbdbcjhahlofiaaDoor
