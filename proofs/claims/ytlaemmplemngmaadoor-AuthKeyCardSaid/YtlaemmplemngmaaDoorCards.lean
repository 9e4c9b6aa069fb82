/-
  DERIVED. GIVEN WITH THE SEED: THE CARDS: each row of YtlaemmplemngmaaDoorRows.lean that lists a variable, with what it lists TIED to the program's text (the seventh form; the later family's looks); each row that meets fmt, with fmt's text TOLD by the authors' own Lean function (tested against real Go, not proved from fmt's source: count such statements apart). THE CARD IS WHAT COUNTS. Prove the row's statement (the work); the ties are given (YtlaemmplemngmaaDoorTie.lean); close each card by the builder's one call (the guide's Derived/Test/ToyasCard.lean, 'card_holds'). Laid BY PROGRAM, IN A SANDBOX (cutbox-door.mjs). By AI agents, Wed Nov 11 2026. No macro, syntax, notation, axiom, sorry.
-/
import Derived.Test.YtlaemmplemngmaaDoorRows
import GoSem.ClaimSeven
namespace Go.Proofs.YtlaemmplemngmaaDoor
namespace Rows

/-- THE TIED CARD OF 'crosswaylaw27.AuthKey'. -/
def authKeyCard : Claim7 := { stood := { row := authKeyRow, standIns := [], harness := (true, "aae49b8bd535026cf1732e8325422c9e19ad1abd064c4f3afa74fdfc6f17027f"), looks := false }, kinds := [], alts := [], laidByText := true, laidKinds := [.data, .data], laidTests := true, laidLooks := .later }
def AuthKeyCardSaid : Prop := Claim7.holds Tryd.pinned (.plain (OpenSpec.ofChange authKeySpec)) authKeyCard

/-- THE SECOND FORM's CARD OF 'crosswaylaw27.AuthKey'. -/
def authKeyUptoCard : Claim7 := { stood := { row := authKeyUptoRow, standIns := [], harness := (true, "aae49b8bd535026cf1732e8325422c9e19ad1abd064c4f3afa74fdfc6f17027f"), looks := false }, kinds := [], alts := [], laidByText := true, laidKinds := [.data, .data], laidTests := true, laidLooks := .later }
def AuthKeyUptoCardSaid : Prop := Claim7.holds Tryd.pinned (.plain (OpenSpec.upto authKeySpec)) authKeyUptoCard
end Rows
end Go.Proofs.YtlaemmplemngmaaDoor
