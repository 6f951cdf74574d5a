/-
  DERIVED. GIVEN WITH THE SEED: THE CARDS: each row of YtpfbknbloeilmaaDoorRows.lean that lists a variable, with what it lists TIED to the program's text (the seventh form; the later family's looks); each row that meets fmt, with fmt's text TOLD by the authors' own Lean function (tested against real Go, not proved from fmt's source: count such statements apart). THE CARD IS WHAT COUNTS. Prove the row's statement (the work); the ties are given (YtpfbknbloeilmaaDoorTie.lean); close each card by the builder's one call (the guide's Derived/Test/ToyasCard.lean, 'card_holds'). Laid BY PROGRAM, IN A SANDBOX (cutbox-door.mjs). By AI agents, Wed Nov 11 2026. No macro, syntax, notation, axiom, sorry.
-/
import Derived.Test.YtpfbknbloeilmaaDoorRows
import GoSem.ClaimSeven
namespace Go.Proofs.YtpfbknbloeilmaaDoor
namespace Rows

/-- THE TIED CARD OF 'halyardlaw20.AuthMeets'. -/
def authMeetsCard : Claim7 := { stood := { row := authMeetsRow, standIns := [], harness := (true, "5190463592ac57568e7e56c89cf869262c598031a4ba015211794d3a59fcee52"), looks := false }, kinds := [], alts := [], laidByText := true, laidKinds := [.data, .data], laidTests := true, laidLooks := .later }
def AuthMeetsCardSaid : Prop := Claim7.holds Tryd.pinned (.plain (OpenSpec.ofChange authMeetsSpec)) authMeetsCard

/-- THE TIED CARD OF 'halyardlaw20.AuthOlder'. -/
def authOlderCard : Claim7 := { stood := { row := authOlderRow, standIns := [], harness := (true, "5190463592ac57568e7e56c89cf869262c598031a4ba015211794d3a59fcee52"), looks := false }, kinds := [], alts := [], laidByText := true, laidKinds := [.data, .data], laidTests := true, laidLooks := .later }
def AuthOlderCardSaid : Prop := Claim7.holds Tryd.pinned (.plain (OpenSpec.ofChange authOlderSpec)) authOlderCard

/-- THE SECOND FORM's CARD OF 'halyardlaw20.AuthMeets'. -/
def authMeetsUptoCard : Claim7 := { stood := { row := authMeetsUptoRow, standIns := [], harness := (true, "5190463592ac57568e7e56c89cf869262c598031a4ba015211794d3a59fcee52"), looks := false }, kinds := [], alts := [], laidByText := true, laidKinds := [.data, .data], laidTests := true, laidLooks := .later }
def AuthMeetsUptoCardSaid : Prop := Claim7.holds Tryd.pinned (.plain (OpenSpec.upto authMeetsSpec)) authMeetsUptoCard

/-- THE SECOND FORM's CARD OF 'halyardlaw20.AuthOlder'. -/
def authOlderUptoCard : Claim7 := { stood := { row := authOlderUptoRow, standIns := [], harness := (true, "5190463592ac57568e7e56c89cf869262c598031a4ba015211794d3a59fcee52"), looks := false }, kinds := [], alts := [], laidByText := true, laidKinds := [.data, .data], laidTests := true, laidLooks := .later }
def AuthOlderUptoCardSaid : Prop := Claim7.holds Tryd.pinned (.plain (OpenSpec.upto authOlderSpec)) authOlderUptoCard
end Rows
end Go.Proofs.YtpfbknbloeilmaaDoor
