/-
  DERIVED. GIVEN WITH THE SEED: THE CARDS: each row of YtbdbcjhahlofiaaDoorRows.lean that lists a variable, with what it lists TIED to the program's text (the seventh form; the later family's looks); each row that meets fmt, with fmt's text TOLD by the authors' own Lean function (tested against real Go, not proved from fmt's source: count such statements apart). THE CARD IS WHAT COUNTS. Prove the row's statement (the work); the ties are given (YtbdbcjhahlofiaaDoorTie.lean); close each card by the builder's one call (the guide's Derived/Test/ToyasCard.lean, 'card_holds'). Laid BY PROGRAM, IN A SANDBOX (cutbox-door.mjs). By AI agents, Wed Nov 11 2026. No macro, syntax, notation, axiom, sorry.
-/
import Derived.Test.YtbdbcjhahlofiaaDoorRows
import GoSem.ClaimSeven
namespace Go.Proofs.YtbdbcjhahlofiaaDoor
namespace Rows

/-- THE TIED CARD OF 'crosswaylaw10.CookiePuts'. -/
def cookiePutsCard : Claim7 := { stood := { row := cookiePutsRow, standIns := [], harness := (true, "1831bf118deba99a89c6251d12016b8460892994d4670ef03bd6c222542defdd"), looks := false }, kinds := [], alts := [], laidByText := true, laidKinds := [.data, .data], laidTests := true, laidLooks := .later }
def CookiePutsCardSaid : Prop := Claim7.holds Tryd.pinned (.plain (OpenSpec.ofChange cookiePutsSpec)) cookiePutsCard

/-- THE TIED CARD OF 'crosswaylaw10.CookieGets'. -/
def cookieGetsCard : Claim7 := { stood := { row := cookieGetsRow, standIns := [], harness := (true, "1831bf118deba99a89c6251d12016b8460892994d4670ef03bd6c222542defdd"), looks := false }, kinds := [], alts := [], laidByText := true, laidKinds := [.data, .data], laidTests := true, laidLooks := .later }
def CookieGetsCardSaid : Prop := Claim7.holds Tryd.pinned (.plain (OpenSpec.ofChange cookieGetsSpec)) cookieGetsCard

/-- THE TIED CARD OF 'crosswaylaw10.CookieBent'. -/
def cookieBentCard : Claim7 := { stood := { row := cookieBentRow, standIns := [], harness := (true, "1831bf118deba99a89c6251d12016b8460892994d4670ef03bd6c222542defdd"), looks := false }, kinds := [], alts := [], laidByText := true, laidKinds := [.data, .data], laidTests := true, laidLooks := .later }
def CookieBentCardSaid : Prop := Claim7.holds Tryd.pinned (.plain (OpenSpec.ofChange cookieBentSpec)) cookieBentCard

/-- THE TIED CARD OF 'crosswaylaw27.AuthKey'. -/
def authKeyCard : Claim7 := { stood := { row := authKeyRow, standIns := [], harness := (true, "1831bf118deba99a89c6251d12016b8460892994d4670ef03bd6c222542defdd"), looks := false }, kinds := [], alts := [], laidByText := true, laidKinds := [.data, .data], laidTests := true, laidLooks := .later }
def AuthKeyCardSaid : Prop := Claim7.holds Tryd.pinned (.plain (OpenSpec.ofChange authKeySpec)) authKeyCard

/-- THE SECOND FORM's CARD OF 'crosswaylaw10.CookiePuts'. -/
def cookiePutsUptoCard : Claim7 := { stood := { row := cookiePutsUptoRow, standIns := [], harness := (true, "1831bf118deba99a89c6251d12016b8460892994d4670ef03bd6c222542defdd"), looks := false }, kinds := [], alts := [], laidByText := true, laidKinds := [.data, .data], laidTests := true, laidLooks := .later }
def CookiePutsUptoCardSaid : Prop := Claim7.holds Tryd.pinned (.plain (OpenSpec.upto cookiePutsSpec)) cookiePutsUptoCard

/-- THE SECOND FORM's CARD OF 'crosswaylaw10.CookieGets'. -/
def cookieGetsUptoCard : Claim7 := { stood := { row := cookieGetsUptoRow, standIns := [], harness := (true, "1831bf118deba99a89c6251d12016b8460892994d4670ef03bd6c222542defdd"), looks := false }, kinds := [], alts := [], laidByText := true, laidKinds := [.data, .data], laidTests := true, laidLooks := .later }
def CookieGetsUptoCardSaid : Prop := Claim7.holds Tryd.pinned (.plain (OpenSpec.upto cookieGetsSpec)) cookieGetsUptoCard

/-- THE SECOND FORM's CARD OF 'crosswaylaw10.CookieBent'. -/
def cookieBentUptoCard : Claim7 := { stood := { row := cookieBentUptoRow, standIns := [], harness := (true, "1831bf118deba99a89c6251d12016b8460892994d4670ef03bd6c222542defdd"), looks := false }, kinds := [], alts := [], laidByText := true, laidKinds := [.data, .data], laidTests := true, laidLooks := .later }
def CookieBentUptoCardSaid : Prop := Claim7.holds Tryd.pinned (.plain (OpenSpec.upto cookieBentSpec)) cookieBentUptoCard

/-- THE SECOND FORM's CARD OF 'crosswaylaw27.AuthKey'. -/
def authKeyUptoCard : Claim7 := { stood := { row := authKeyUptoRow, standIns := [], harness := (true, "1831bf118deba99a89c6251d12016b8460892994d4670ef03bd6c222542defdd"), looks := false }, kinds := [], alts := [], laidByText := true, laidKinds := [.data, .data], laidTests := true, laidLooks := .later }
def AuthKeyUptoCardSaid : Prop := Claim7.holds Tryd.pinned (.plain (OpenSpec.upto authKeySpec)) authKeyUptoCard
end Rows
end Go.Proofs.YtbdbcjhahlofiaaDoor
