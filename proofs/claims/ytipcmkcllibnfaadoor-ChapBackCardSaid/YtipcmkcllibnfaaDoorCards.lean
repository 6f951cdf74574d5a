/-
  DERIVED. GIVEN WITH THE SEED: THE CARDS: each row of YtipcmkcllibnfaaDoorRows.lean that lists a variable, with what it lists TIED to the program's text (the seventh form; the later family's looks); each row that meets fmt, with fmt's text TOLD by the authors' own Lean function (tested against real Go, not proved from fmt's source: count such statements apart). THE CARD IS WHAT COUNTS. Prove the row's statement (the work); the ties are given (YtipcmkcllibnfaaDoorTie.lean); close each card by the builder's one call (the guide's Derived/Test/ToyasCard.lean, 'card_holds'). Laid BY PROGRAM, IN A SANDBOX (cutbox-door.mjs). By AI agents, Wed Nov 11 2026. No macro, syntax, notation, axiom, sorry.
-/
import Derived.Test.YtipcmkcllibnfaaDoorRows
import GoSem.ClaimSeven
namespace Go.Proofs.YtipcmkcllibnfaaDoor
namespace Rows

/-- THE TIED CARD OF 'halyardlaw19.ChapTells'. -/
def chapTellsCard : Claim7 := { stood := { row := chapTellsRow, standIns := [], harness := (true, "2de866529f41b489e20bade9a142d0c0be81677ba910d83615251b71de47496a"), looks := false }, kinds := [], alts := [], laidByText := true, laidKinds := [.data, .data], laidTests := true, laidLooks := .later }
def ChapTellsCardSaid : Prop := Claim7.holds Tryd.pinned (.plain (OpenSpec.ofChange chapTellsSpec)) chapTellsCard

/-- THE TIED CARD OF 'halyardlaw19.ChapBack'. -/
def chapBackCard : Claim7 := { stood := { row := chapBackRow, standIns := [], harness := (true, "2de866529f41b489e20bade9a142d0c0be81677ba910d83615251b71de47496a"), looks := false }, kinds := [], alts := [], laidByText := true, laidKinds := [.data, .data], laidTests := true, laidLooks := .later }
def ChapBackCardSaid : Prop := Claim7.holds Tryd.pinned (.plain (OpenSpec.ofChange chapBackSpec)) chapBackCard

/-- THE TIED CARD OF 'halyardlaw19.ChapChecks'. -/
def chapChecksCard : Claim7 := { stood := { row := chapChecksRow, standIns := [], harness := (true, "2de866529f41b489e20bade9a142d0c0be81677ba910d83615251b71de47496a"), looks := false }, kinds := [], alts := [], laidByText := true, laidKinds := [.data, .data], laidTests := true, laidLooks := .later }
def ChapChecksCardSaid : Prop := Claim7.holds Tryd.pinned (.plain (OpenSpec.ofChange chapChecksSpec)) chapChecksCard

/-- THE SECOND FORM's CARD OF 'halyardlaw19.ChapTells'. -/
def chapTellsUptoCard : Claim7 := { stood := { row := chapTellsUptoRow, standIns := [], harness := (true, "2de866529f41b489e20bade9a142d0c0be81677ba910d83615251b71de47496a"), looks := false }, kinds := [], alts := [], laidByText := true, laidKinds := [.data, .data], laidTests := true, laidLooks := .later }
def ChapTellsUptoCardSaid : Prop := Claim7.holds Tryd.pinned (.plain (OpenSpec.upto chapTellsSpec)) chapTellsUptoCard

/-- THE SECOND FORM's CARD OF 'halyardlaw19.ChapBack'. -/
def chapBackUptoCard : Claim7 := { stood := { row := chapBackUptoRow, standIns := [], harness := (true, "2de866529f41b489e20bade9a142d0c0be81677ba910d83615251b71de47496a"), looks := false }, kinds := [], alts := [], laidByText := true, laidKinds := [.data, .data], laidTests := true, laidLooks := .later }
def ChapBackUptoCardSaid : Prop := Claim7.holds Tryd.pinned (.plain (OpenSpec.upto chapBackSpec)) chapBackUptoCard

/-- THE SECOND FORM's CARD OF 'halyardlaw19.ChapChecks'. -/
def chapChecksUptoCard : Claim7 := { stood := { row := chapChecksUptoRow, standIns := [], harness := (true, "2de866529f41b489e20bade9a142d0c0be81677ba910d83615251b71de47496a"), looks := false }, kinds := [], alts := [], laidByText := true, laidKinds := [.data, .data], laidTests := true, laidLooks := .later }
def ChapChecksUptoCardSaid : Prop := Claim7.holds Tryd.pinned (.plain (OpenSpec.upto chapChecksSpec)) chapChecksUptoCard
end Rows
end Go.Proofs.YtipcmkcllibnfaaDoor
