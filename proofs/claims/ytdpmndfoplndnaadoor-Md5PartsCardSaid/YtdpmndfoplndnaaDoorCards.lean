/-
  DERIVED. GIVEN WITH THE SEED: THE CARDS: each row of YtdpmndfoplndnaaDoorRows.lean that lists a variable, with what it lists TIED to the program's text (the seventh form; the later family's looks); each row that meets fmt, with fmt's text TOLD by the authors' own Lean function (tested against real Go, not proved from fmt's source: count such statements apart). THE CARD IS WHAT COUNTS. Prove the row's statement (the work); the ties are given (YtdpmndfoplndnaaDoorTie.lean); close each card by the builder's one call (the guide's Derived/Test/ToyasCard.lean, 'card_holds'). Laid BY PROGRAM, IN A SANDBOX (cutbox-door.mjs). By AI agents, Wed Nov 11 2026. No macro, syntax, notation, axiom, sorry.
-/
import Derived.Test.YtdpmndfoplndnaaDoorRows
import GoSem.ClaimSeven
namespace Go.Proofs.YtdpmndfoplndnaaDoor
namespace Rows

/-- THE TIED CARD OF 'halyardlaw05.Md5Tells'. -/
def md5TellsCard : Claim7 := { stood := { row := md5TellsRow, standIns := [], harness := (true, "563534b3c52d932b39f2ec0c628745d0e76437b5e182a607b08b0fda6a2946f6"), looks := false }, kinds := [], alts := [], laidByText := true, laidKinds := [.data, .data], laidTests := true, laidLooks := .later }
def Md5TellsCardSaid : Prop := Claim7.holds Tryd.pinned (.plain (OpenSpec.ofChange md5TellsSpec)) md5TellsCard

/-- THE TIED CARD OF 'halyardlaw05.Md5Parts'. -/
def md5PartsCard : Claim7 := { stood := { row := md5PartsRow, standIns := [], harness := (true, "563534b3c52d932b39f2ec0c628745d0e76437b5e182a607b08b0fda6a2946f6"), looks := false }, kinds := [], alts := [], laidByText := true, laidKinds := [.data, .data], laidTests := true, laidLooks := .later }
def Md5PartsCardSaid : Prop := Claim7.holds Tryd.pinned (.plain (OpenSpec.ofChange md5PartsSpec)) md5PartsCard

/-- THE TIED CARD OF 'halyardlaw05.Md5Joins'. -/
def md5JoinsCard : Claim7 := { stood := { row := md5JoinsRow, standIns := [], harness := (true, "563534b3c52d932b39f2ec0c628745d0e76437b5e182a607b08b0fda6a2946f6"), looks := false }, kinds := [], alts := [], laidByText := true, laidKinds := [.data, .data], laidTests := true, laidLooks := .later }
def Md5JoinsCardSaid : Prop := Claim7.holds Tryd.pinned (.plain (OpenSpec.ofChange md5JoinsSpec)) md5JoinsCard

/-- THE SECOND FORM's CARD OF 'halyardlaw05.Md5Tells'. -/
def md5TellsUptoCard : Claim7 := { stood := { row := md5TellsUptoRow, standIns := [], harness := (true, "563534b3c52d932b39f2ec0c628745d0e76437b5e182a607b08b0fda6a2946f6"), looks := false }, kinds := [], alts := [], laidByText := true, laidKinds := [.data, .data], laidTests := true, laidLooks := .later }
def Md5TellsUptoCardSaid : Prop := Claim7.holds Tryd.pinned (.plain (OpenSpec.upto md5TellsSpec)) md5TellsUptoCard

/-- THE SECOND FORM's CARD OF 'halyardlaw05.Md5Parts'. -/
def md5PartsUptoCard : Claim7 := { stood := { row := md5PartsUptoRow, standIns := [], harness := (true, "563534b3c52d932b39f2ec0c628745d0e76437b5e182a607b08b0fda6a2946f6"), looks := false }, kinds := [], alts := [], laidByText := true, laidKinds := [.data, .data], laidTests := true, laidLooks := .later }
def Md5PartsUptoCardSaid : Prop := Claim7.holds Tryd.pinned (.plain (OpenSpec.upto md5PartsSpec)) md5PartsUptoCard

/-- THE SECOND FORM's CARD OF 'halyardlaw05.Md5Joins'. -/
def md5JoinsUptoCard : Claim7 := { stood := { row := md5JoinsUptoRow, standIns := [], harness := (true, "563534b3c52d932b39f2ec0c628745d0e76437b5e182a607b08b0fda6a2946f6"), looks := false }, kinds := [], alts := [], laidByText := true, laidKinds := [.data, .data], laidTests := true, laidLooks := .later }
def Md5JoinsUptoCardSaid : Prop := Claim7.holds Tryd.pinned (.plain (OpenSpec.upto md5JoinsSpec)) md5JoinsUptoCard
end Rows
end Go.Proofs.YtdpmndfoplndnaaDoor
