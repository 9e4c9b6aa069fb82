/-
  DERIVED. GIVEN WITH THE SEED: THE CARDS: each row of YtlegkbaaklejnaaDoorRows.lean that lists a variable, with what it lists TIED to the program's text (the seventh form; the later family's looks); each row that meets fmt, with fmt's text TOLD by the authors' own Lean function (tested against real Go, not proved from fmt's source: count such statements apart). THE CARD IS WHAT COUNTS. Prove the row's statement (the work); the ties are given (YtlegkbaaklejnaaDoorTie.lean); close each card by the builder's one call (the guide's Derived/Test/ToyasCard.lean, 'card_holds'). Laid BY PROGRAM, IN A SANDBOX (cutbox-door.mjs). By AI agents, Wed Nov 11 2026. No macro, syntax, notation, axiom, sorry.
-/
import Derived.Test.YtlegkbaaklejnaaDoorRows
import GoSem.ClaimSeven
namespace Go.Proofs.YtlegkbaaklejnaaDoor
namespace Rows

/-- THE TIED CARD OF 'crosswaylaw02.CrccOf'. -/
def crccOfCard : Claim7 := { stood := { row := crccOfRow, standIns := [], harness := (true, "1233342396bd602e5d39c49bef0ffbcf780d3340088c9075038e5a8857215ba3"), looks := false }, kinds := [], alts := [], laidByText := true, laidKinds := [.data], laidTests := true, laidLooks := .later }
def CrccOfCardSaid : Prop := Claim7.holds Tryd.pinned (.plain (OpenSpec.ofChange crccOfSpec)) crccOfCard

/-- THE TIED CARD OF 'crosswaylaw02.CrccSeals'. -/
def crccSealsCard : Claim7 := { stood := { row := crccSealsRow, standIns := [], harness := (true, "1233342396bd602e5d39c49bef0ffbcf780d3340088c9075038e5a8857215ba3"), looks := false }, kinds := [], alts := [], laidByText := true, laidKinds := [.data], laidTests := true, laidLooks := .later }
def CrccSealsCardSaid : Prop := Claim7.holds Tryd.pinned (.plain (OpenSpec.ofChange crccSealsSpec)) crccSealsCard

/-- THE TIED CARD OF 'crosswaylaw02.CrccBits'. -/
def crccBitsCard : Claim7 := { stood := { row := crccBitsRow, standIns := [], harness := (true, "1233342396bd602e5d39c49bef0ffbcf780d3340088c9075038e5a8857215ba3"), looks := false }, kinds := [], alts := [], laidByText := true, laidKinds := [.data], laidTests := true, laidLooks := .later }
def CrccBitsCardSaid : Prop := Claim7.holds Tryd.pinned (.plain (OpenSpec.ofChange crccBitsSpec)) crccBitsCard

/-- THE TIED CARD OF 'crosswaylaw08.DigestOf'. -/
def digestOfCard : Claim7 := { stood := { row := digestOfRow, standIns := [], harness := (true, "1233342396bd602e5d39c49bef0ffbcf780d3340088c9075038e5a8857215ba3"), looks := false }, kinds := [], alts := [], laidByText := true, laidKinds := [.data, .data], laidTests := true, laidLooks := .later }
def DigestOfCardSaid : Prop := Claim7.holds Tryd.pinned (.plain (OpenSpec.ofChange digestOfSpec)) digestOfCard

/-- THE TIED CARD OF 'crosswaylaw08.DigestLong'. -/
def digestLongCard : Claim7 := { stood := { row := digestLongRow, standIns := [], harness := (true, "1233342396bd602e5d39c49bef0ffbcf780d3340088c9075038e5a8857215ba3"), looks := false }, kinds := [], alts := [], laidByText := true, laidKinds := [.data, .data], laidTests := true, laidLooks := .later }
def DigestLongCardSaid : Prop := Claim7.holds Tryd.pinned (.plain (OpenSpec.ofChange digestLongSpec)) digestLongCard

/-- THE TIED CARD OF 'crosswaylaw09.MacOf'. -/
def macOfCard : Claim7 := { stood := { row := macOfRow, standIns := [], harness := (true, "1233342396bd602e5d39c49bef0ffbcf780d3340088c9075038e5a8857215ba3"), looks := false }, kinds := [], alts := [], laidByText := true, laidKinds := [.data, .data], laidTests := true, laidLooks := .later }
def MacOfCardSaid : Prop := Claim7.holds Tryd.pinned (.plain (OpenSpec.ofChange macOfSpec)) macOfCard

/-- THE TIED CARD OF 'crosswaylaw09.MacIs'. -/
def macIsCard : Claim7 := { stood := { row := macIsRow, standIns := [], harness := (true, "1233342396bd602e5d39c49bef0ffbcf780d3340088c9075038e5a8857215ba3"), looks := false }, kinds := [], alts := [], laidByText := true, laidKinds := [.data, .data], laidTests := true, laidLooks := .later }
def MacIsCardSaid : Prop := Claim7.holds Tryd.pinned (.plain (OpenSpec.ofChange macIsSpec)) macIsCard

/-- THE TIED CARD OF 'crosswaylaw09.MacBytes'. -/
def macBytesCard : Claim7 := { stood := { row := macBytesRow, standIns := [], harness := (true, "1233342396bd602e5d39c49bef0ffbcf780d3340088c9075038e5a8857215ba3"), looks := false }, kinds := [], alts := [], laidByText := true, laidKinds := [.data, .data], laidTests := true, laidLooks := .later }
def MacBytesCardSaid : Prop := Claim7.holds Tryd.pinned (.plain (OpenSpec.ofChange macBytesSpec)) macBytesCard

/-- THE TIED CARD OF 'crosswaylaw41.MeasureSlots'. -/
def measureSlotsCard : Claim7 := { stood := { row := measureSlotsRow, standIns := [], harness := (true, "1233342396bd602e5d39c49bef0ffbcf780d3340088c9075038e5a8857215ba3"), looks := false }, kinds := [], alts := [], laidByText := true, laidKinds := [.data], laidTests := true, laidLooks := .later }
def MeasureSlotsCardSaid : Prop := Claim7.holds Tryd.pinned (.plain (OpenSpec.ofChange measureSlotsSpec)) measureSlotsCard

/-- THE SECOND FORM's CARD OF 'crosswaylaw02.CrccOf'. -/
def crccOfUptoCard : Claim7 := { stood := { row := crccOfUptoRow, standIns := [], harness := (true, "1233342396bd602e5d39c49bef0ffbcf780d3340088c9075038e5a8857215ba3"), looks := false }, kinds := [], alts := [], laidByText := true, laidKinds := [.data], laidTests := true, laidLooks := .later }
def CrccOfUptoCardSaid : Prop := Claim7.holds Tryd.pinned (.plain (OpenSpec.upto crccOfSpec)) crccOfUptoCard

/-- THE SECOND FORM's CARD OF 'crosswaylaw02.CrccSeals'. -/
def crccSealsUptoCard : Claim7 := { stood := { row := crccSealsUptoRow, standIns := [], harness := (true, "1233342396bd602e5d39c49bef0ffbcf780d3340088c9075038e5a8857215ba3"), looks := false }, kinds := [], alts := [], laidByText := true, laidKinds := [.data], laidTests := true, laidLooks := .later }
def CrccSealsUptoCardSaid : Prop := Claim7.holds Tryd.pinned (.plain (OpenSpec.upto crccSealsSpec)) crccSealsUptoCard

/-- THE SECOND FORM's CARD OF 'crosswaylaw02.CrccBits'. -/
def crccBitsUptoCard : Claim7 := { stood := { row := crccBitsUptoRow, standIns := [], harness := (true, "1233342396bd602e5d39c49bef0ffbcf780d3340088c9075038e5a8857215ba3"), looks := false }, kinds := [], alts := [], laidByText := true, laidKinds := [.data], laidTests := true, laidLooks := .later }
def CrccBitsUptoCardSaid : Prop := Claim7.holds Tryd.pinned (.plain (OpenSpec.upto crccBitsSpec)) crccBitsUptoCard

/-- THE SECOND FORM's CARD OF 'crosswaylaw08.DigestOf'. -/
def digestOfUptoCard : Claim7 := { stood := { row := digestOfUptoRow, standIns := [], harness := (true, "1233342396bd602e5d39c49bef0ffbcf780d3340088c9075038e5a8857215ba3"), looks := false }, kinds := [], alts := [], laidByText := true, laidKinds := [.data, .data], laidTests := true, laidLooks := .later }
def DigestOfUptoCardSaid : Prop := Claim7.holds Tryd.pinned (.plain (OpenSpec.upto digestOfSpec)) digestOfUptoCard

/-- THE SECOND FORM's CARD OF 'crosswaylaw08.DigestLong'. -/
def digestLongUptoCard : Claim7 := { stood := { row := digestLongUptoRow, standIns := [], harness := (true, "1233342396bd602e5d39c49bef0ffbcf780d3340088c9075038e5a8857215ba3"), looks := false }, kinds := [], alts := [], laidByText := true, laidKinds := [.data, .data], laidTests := true, laidLooks := .later }
def DigestLongUptoCardSaid : Prop := Claim7.holds Tryd.pinned (.plain (OpenSpec.upto digestLongSpec)) digestLongUptoCard

/-- THE SECOND FORM's CARD OF 'crosswaylaw09.MacOf'. -/
def macOfUptoCard : Claim7 := { stood := { row := macOfUptoRow, standIns := [], harness := (true, "1233342396bd602e5d39c49bef0ffbcf780d3340088c9075038e5a8857215ba3"), looks := false }, kinds := [], alts := [], laidByText := true, laidKinds := [.data, .data], laidTests := true, laidLooks := .later }
def MacOfUptoCardSaid : Prop := Claim7.holds Tryd.pinned (.plain (OpenSpec.upto macOfSpec)) macOfUptoCard

/-- THE SECOND FORM's CARD OF 'crosswaylaw09.MacIs'. -/
def macIsUptoCard : Claim7 := { stood := { row := macIsUptoRow, standIns := [], harness := (true, "1233342396bd602e5d39c49bef0ffbcf780d3340088c9075038e5a8857215ba3"), looks := false }, kinds := [], alts := [], laidByText := true, laidKinds := [.data, .data], laidTests := true, laidLooks := .later }
def MacIsUptoCardSaid : Prop := Claim7.holds Tryd.pinned (.plain (OpenSpec.upto macIsSpec)) macIsUptoCard

/-- THE SECOND FORM's CARD OF 'crosswaylaw09.MacBytes'. -/
def macBytesUptoCard : Claim7 := { stood := { row := macBytesUptoRow, standIns := [], harness := (true, "1233342396bd602e5d39c49bef0ffbcf780d3340088c9075038e5a8857215ba3"), looks := false }, kinds := [], alts := [], laidByText := true, laidKinds := [.data, .data], laidTests := true, laidLooks := .later }
def MacBytesUptoCardSaid : Prop := Claim7.holds Tryd.pinned (.plain (OpenSpec.upto macBytesSpec)) macBytesUptoCard

/-- THE SECOND FORM's CARD OF 'crosswaylaw41.MeasureSlots'. -/
def measureSlotsUptoCard : Claim7 := { stood := { row := measureSlotsUptoRow, standIns := [], harness := (true, "1233342396bd602e5d39c49bef0ffbcf780d3340088c9075038e5a8857215ba3"), looks := false }, kinds := [], alts := [], laidByText := true, laidKinds := [.data], laidTests := true, laidLooks := .later }
def MeasureSlotsUptoCardSaid : Prop := Claim7.holds Tryd.pinned (.plain (OpenSpec.upto measureSlotsSpec)) measureSlotsUptoCard
end Rows
end Go.Proofs.YtlegkbaaklejnaaDoor
