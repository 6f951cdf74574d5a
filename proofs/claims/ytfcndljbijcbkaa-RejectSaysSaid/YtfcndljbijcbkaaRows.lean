/-
  No cell of these rows narrows 'for every input' (looked for: loops, veiled, ifaces, maps, wideKeys, modest, calm, conditions, laid).
  DERIVED. THE GIVEN ROWS OF THIS SEAT. 3 by the template 'for every input the law returns true; each argument reads behind the call as it read before'; 0 by the template 'total and deterministic' (their statements: YtfcndljbijcbkaaTotals.lean).
  GIVEN WITH THE SEED: the statements are not yours to turn. If you find one false, say at which input.
  Laid BY PROGRAM, IN A SANDBOX (cutbox-rows.mjs): the forced cells as the released guide's own fill.sh prints them over the translation c1aa8fa014d2b067… (all of the seat's roots in one cut). By AI agents, Wed Nov 11 2026. No macro, syntax, notation, axiom, sorry.
-/
import Derived.Test.YtfcndljbijcbkaaChecked
import GoSem.Claim
import GoSem.ClaimJoined
import GoSem.ClaimMapViews
import Derived.JoinedTies
import Derived.KernelRfl
namespace Go.Proofs.Ytfcndljbijcbkaa
/- THE CELL 'sum', in the pinned program and in every row, IS THE sha256 OF THE DUMP (.gsa) THAT YtfcndljbijcbkaaProg.lean LOADS. Nothing in Lean hashes anything: it is a label: what it is worth is what the hold of that sum in a sandbox is worth. -/
noncomputable def Try.pinned : Pinned := { name := "ytfcndljbijcbkaa", sum := "c1aa8fa014d2b067f2b3885d2419739c34788a918cb6b536e78f184411a775ee", checked := Try.checked }
namespace Rows
def none {H : Type} : Left H := { results := [], args := [] }

/-- 'halyardlaw11.RejectTells': WHATEVER THE INPUT: true; the input reads as it did. -/
def rejectTellsSpec : ChangeSpec := { name := "rejectTells", fn := fun _ => fun
  | [d1, d2, d3, d4, d5, d6] => { results := [.lit (.bool true)], args := [d1, d2, d3, d4, d5, d6] }
  | _ => none }
def rejectTellsRow : OpenClaim := { program := "ytfcndljbijcbkaa", sum := "c1aa8fa014d2b067f2b3885d2419739c34788a918cb6b536e78f184411a775ee", func := "halyard/halyardlaw11.RejectTells", spec := "rejectTells", inPlace := ["internal/abi.NoEscape"], unfollowed := true, recurses := true, apart := false }
def RejectTellsSaid : Prop := rejectTellsRow.holds Try.pinned (OpenSpec.ofChange rejectTellsSpec)

/-- ITS FALSE NEIGHBOUR: 'it returns false'. Refute it at one input. -/
def rejectTellsWrong : ChangeSpec := { name := "rejectTells", fn := fun _ => fun
  | [d1, d2, d3, d4, d5, d6] => { results := [.lit (.bool false)], args := [d1, d2, d3, d4, d5, d6] }
  | _ => none }
def RejectTellsWrongFalsely : Prop := rejectTellsRow.holds Try.pinned (OpenSpec.ofChange rejectTellsWrong)

/-- 'halyardlaw11.RejectFits': WHATEVER THE INPUT: true; the input reads as it did. -/
def rejectFitsSpec : ChangeSpec := { name := "rejectFits", fn := fun _ => fun
  | [d1, d2, d3, d4, d5] => { results := [.lit (.bool true)], args := [d1, d2, d3, d4, d5] }
  | _ => none }
def rejectFitsRow : OpenClaim := { program := "ytfcndljbijcbkaa", sum := "c1aa8fa014d2b067f2b3885d2419739c34788a918cb6b536e78f184411a775ee", func := "halyard/halyardlaw11.RejectFits", spec := "rejectFits", inPlace := ["internal/abi.NoEscape"], unfollowed := true, recurses := true, apart := false }
def RejectFitsSaid : Prop := rejectFitsRow.holds Try.pinned (OpenSpec.ofChange rejectFitsSpec)

/-- ITS FALSE NEIGHBOUR: 'it returns false'. Refute it at one input. -/
def rejectFitsWrong : ChangeSpec := { name := "rejectFits", fn := fun _ => fun
  | [d1, d2, d3, d4, d5] => { results := [.lit (.bool false)], args := [d1, d2, d3, d4, d5] }
  | _ => none }
def RejectFitsWrongFalsely : Prop := rejectFitsRow.holds Try.pinned (OpenSpec.ofChange rejectFitsWrong)

/-- 'halyardlaw11.RejectSays': WHATEVER THE INPUT: true; the input reads as it did. -/
def rejectSaysSpec : ChangeSpec := { name := "rejectSays", fn := fun _ => fun
  | [d1, d2, d3, d4, d5] => { results := [.lit (.bool true)], args := [d1, d2, d3, d4, d5] }
  | _ => none }
def rejectSaysRow : OpenClaim := { program := "ytfcndljbijcbkaa", sum := "c1aa8fa014d2b067f2b3885d2419739c34788a918cb6b536e78f184411a775ee", func := "halyard/halyardlaw11.RejectSays", spec := "rejectSays", inPlace := ["internal/abi.NoEscape"], unfollowed := true, recurses := true, apart := false }
def RejectSaysSaid : Prop := rejectSaysRow.holds Try.pinned (OpenSpec.ofChange rejectSaysSpec)

/-- ITS FALSE NEIGHBOUR: 'it returns false'. Refute it at one input. -/
def rejectSaysWrong : ChangeSpec := { name := "rejectSays", fn := fun _ => fun
  | [d1, d2, d3, d4, d5] => { results := [.lit (.bool false)], args := [d1, d2, d3, d4, d5] }
  | _ => none }
def RejectSaysWrongFalsely : Prop := rejectSaysRow.holds Try.pinned (OpenSpec.ofChange rejectSaysWrong)

/- THE SECOND FORM. 'bulk': how many values and letters a reading holds, each counted each time it is reached (what is shared counts as often as it is met; a slice's spare places count too). A statement '..UptoSaid' is the law's where the arguments, and the package variables that the reading takes, are together of bulk at most 1048576: NARROWER than '..Said'. Prove '..Said' where nothing that the law and all that it calls make is longer than what came in: it says more and counts as full. Else prove '..UptoSaid'. A law counts once. -/
mutual
def uptoBulk {H : Type} : DataW H → Nat
  | .lit (.string bytes) => bytes.length + 1
  | .lit _ => 1
  | .nil => 1
  | .ptr d => uptoBulk d + 1
  | .slice elems spare => uptoBulkAll elems + uptoBulkAll spare + 1
  | .agg parts => uptoBulkAll parts + 1
  | .iface _ d => uptoBulk d + 1
  | .map entries => uptoBulkEntries entries + 1
  | .held _ => 1
def uptoBulkAll {H : Type} : List (DataW H) → Nat
  | [] => 0
  | d :: r => uptoBulk d + uptoBulkAll r
def uptoBulkEntries {H : Type} : List (Lit × DataW H) → Nat
  | [] => 0
  | x :: r => uptoBulkEntry x + uptoBulkEntries r
def uptoBulkEntry {H : Type} : Lit × DataW H → Nat
  | (.string bytes, d) => bytes.length + uptoBulk d + 1
  | (_, d) => uptoBulk d + 1
 end
def uptoSmall : (H : Type) → List (DataW H) → Bool := fun _ ds => decide (uptoBulkAll ds ≤ 1048576)
def OpenSpec.upto (s : _root_.Go.ChangeSpec) : _root_.Go.OpenSpec := { _root_.Go.OpenSpec.ofChange s with cond := some uptoSmall }

/-- 'halyardlaw11.RejectTells', WHERE WHAT IT READS IS OF BULK AT MOST 1048576: true; the input reads as it did. -/
def rejectTellsUptoRow : OpenClaim := { program := "ytfcndljbijcbkaa", sum := "c1aa8fa014d2b067f2b3885d2419739c34788a918cb6b536e78f184411a775ee", func := "halyard/halyardlaw11.RejectTells", spec := "rejectTells", inPlace := ["internal/abi.NoEscape"], unfollowed := true, recurses := true, apart := false, narrowed := true }
def RejectTellsUptoSaid : Prop := rejectTellsUptoRow.holds Try.pinned (OpenSpec.upto rejectTellsSpec)

/-- 'halyardlaw11.RejectFits', WHERE WHAT IT READS IS OF BULK AT MOST 1048576: true; the input reads as it did. -/
def rejectFitsUptoRow : OpenClaim := { program := "ytfcndljbijcbkaa", sum := "c1aa8fa014d2b067f2b3885d2419739c34788a918cb6b536e78f184411a775ee", func := "halyard/halyardlaw11.RejectFits", spec := "rejectFits", inPlace := ["internal/abi.NoEscape"], unfollowed := true, recurses := true, apart := false, narrowed := true }
def RejectFitsUptoSaid : Prop := rejectFitsUptoRow.holds Try.pinned (OpenSpec.upto rejectFitsSpec)

/-- 'halyardlaw11.RejectSays', WHERE WHAT IT READS IS OF BULK AT MOST 1048576: true; the input reads as it did. -/
def rejectSaysUptoRow : OpenClaim := { program := "ytfcndljbijcbkaa", sum := "c1aa8fa014d2b067f2b3885d2419739c34788a918cb6b536e78f184411a775ee", func := "halyard/halyardlaw11.RejectSays", spec := "rejectSays", inPlace := ["internal/abi.NoEscape"], unfollowed := true, recurses := true, apart := false, narrowed := true }
def RejectSaysUptoSaid : Prop := rejectSaysUptoRow.holds Try.pinned (OpenSpec.upto rejectSaysSpec)

end Rows
end Go.Proofs.Ytfcndljbijcbkaa
