/-
  No cell of these rows narrows 'for every input' (looked for: loops, veiled, ifaces, maps, wideKeys, modest, calm, conditions, laid).
  DERIVED. THE GIVEN ROWS OF THIS SEAT. 4 by the template 'for every input the law returns true; each argument reads behind the call as it read before'; 0 by the template 'total and deterministic' (their statements: YtbmifcfgpmgcpaaTotals.lean).
  GIVEN WITH THE SEED: the statements are not yours to turn. If you find one false, say at which input.
  Laid BY PROGRAM, IN A SANDBOX (cutbox-rows.mjs): the forced cells as the released guide's own fill.sh prints them over the translation 446ce8bb31ccdc80… (all of the seat's roots in one cut). By AI agents, Wed Nov 11 2026. No macro, syntax, notation, axiom, sorry.
-/
import Derived.Test.YtbmifcfgpmgcpaaChecked
import GoSem.Claim
import GoSem.ClaimJoined
import GoSem.ClaimMapViews
import Derived.JoinedTies
import Derived.KernelRfl
namespace Go.Proofs.Ytbmifcfgpmgcpaa
/- THE CELL 'sum', in the pinned program and in every row, IS THE sha256 OF THE DUMP (.gsa) THAT YtbmifcfgpmgcpaaProg.lean LOADS. Nothing in Lean hashes anything: it is a label: what it is worth is what the hold of that sum in a sandbox is worth. -/
noncomputable def Try.pinned : Pinned := { name := "ytbmifcfgpmgcpaa", sum := "446ce8bb31ccdc8027065f1b4a3b39ad78ffdb121a17233a2cb48f34034bd5c8", checked := Try.checked }
namespace Rows
def none {H : Type} : Left H := { results := [], args := [] }

/-- 'halyardlaw08.OptionTells': WHATEVER THE INPUT: true; the input reads as it did. -/
def optionTellsSpec : ChangeSpec := { name := "optionTells", fn := fun _ => fun
  | [d1, d2, d3, d4] => { results := [.lit (.bool true)], args := [d1, d2, d3, d4] }
  | _ => none }
def optionTellsRow : OpenClaim := { program := "ytbmifcfgpmgcpaa", sum := "446ce8bb31ccdc8027065f1b4a3b39ad78ffdb121a17233a2cb48f34034bd5c8", func := "halyard/halyardlaw08.OptionTells", spec := "optionTells", unfollowed := true, recurses := true, apart := false }
def OptionTellsSaid : Prop := optionTellsRow.holds Try.pinned (OpenSpec.ofChange optionTellsSpec)

/-- ITS FALSE NEIGHBOUR: 'it returns false'. Refute it at one input. -/
def optionTellsWrong : ChangeSpec := { name := "optionTells", fn := fun _ => fun
  | [d1, d2, d3, d4] => { results := [.lit (.bool false)], args := [d1, d2, d3, d4] }
  | _ => none }
def OptionTellsWrongFalsely : Prop := optionTellsRow.holds Try.pinned (OpenSpec.ofChange optionTellsWrong)

/-- 'halyardlaw08.OptionBack': WHATEVER THE INPUT: true; the input reads as it did. -/
def optionBackSpec : ChangeSpec := { name := "optionBack", fn := fun _ => fun
  | [d1, d2] => { results := [.lit (.bool true)], args := [d1, d2] }
  | _ => none }
def optionBackRow : OpenClaim := { program := "ytbmifcfgpmgcpaa", sum := "446ce8bb31ccdc8027065f1b4a3b39ad78ffdb121a17233a2cb48f34034bd5c8", func := "halyard/halyardlaw08.OptionBack", spec := "optionBack", unfollowed := true, recurses := true, apart := false }
def OptionBackSaid : Prop := optionBackRow.holds Try.pinned (OpenSpec.ofChange optionBackSpec)

/-- ITS FALSE NEIGHBOUR: 'it returns false'. Refute it at one input. -/
def optionBackWrong : ChangeSpec := { name := "optionBack", fn := fun _ => fun
  | [d1, d2] => { results := [.lit (.bool false)], args := [d1, d2] }
  | _ => none }
def OptionBackWrongFalsely : Prop := optionBackRow.holds Try.pinned (OpenSpec.ofChange optionBackWrong)

/-- 'halyardlaw08.OptionJoins': WHATEVER THE INPUT: true; the input reads as it did. -/
def optionJoinsSpec : ChangeSpec := { name := "optionJoins", fn := fun _ => fun
  | [d1, d2] => { results := [.lit (.bool true)], args := [d1, d2] }
  | _ => none }
def optionJoinsRow : OpenClaim := { program := "ytbmifcfgpmgcpaa", sum := "446ce8bb31ccdc8027065f1b4a3b39ad78ffdb121a17233a2cb48f34034bd5c8", func := "halyard/halyardlaw08.OptionJoins", spec := "optionJoins", unfollowed := true, recurses := true, apart := false }
def OptionJoinsSaid : Prop := optionJoinsRow.holds Try.pinned (OpenSpec.ofChange optionJoinsSpec)

/-- ITS FALSE NEIGHBOUR: 'it returns false'. Refute it at one input. -/
def optionJoinsWrong : ChangeSpec := { name := "optionJoins", fn := fun _ => fun
  | [d1, d2] => { results := [.lit (.bool false)], args := [d1, d2] }
  | _ => none }
def OptionJoinsWrongFalsely : Prop := optionJoinsRow.holds Try.pinned (OpenSpec.ofChange optionJoinsWrong)

/-- 'halyardlaw08.OptionParts': WHATEVER THE INPUT: true; the input reads as it did. -/
def optionPartsSpec : ChangeSpec := { name := "optionParts", fn := fun _ => fun
  | [d1, d2] => { results := [.lit (.bool true)], args := [d1, d2] }
  | _ => none }
def optionPartsRow : OpenClaim := { program := "ytbmifcfgpmgcpaa", sum := "446ce8bb31ccdc8027065f1b4a3b39ad78ffdb121a17233a2cb48f34034bd5c8", func := "halyard/halyardlaw08.OptionParts", spec := "optionParts", unfollowed := true, recurses := true, apart := false }
def OptionPartsSaid : Prop := optionPartsRow.holds Try.pinned (OpenSpec.ofChange optionPartsSpec)

/-- ITS FALSE NEIGHBOUR: 'it returns false'. Refute it at one input. -/
def optionPartsWrong : ChangeSpec := { name := "optionParts", fn := fun _ => fun
  | [d1, d2] => { results := [.lit (.bool false)], args := [d1, d2] }
  | _ => none }
def OptionPartsWrongFalsely : Prop := optionPartsRow.holds Try.pinned (OpenSpec.ofChange optionPartsWrong)

/- THE SECOND FORM. 'bulk': how many values and letters a reading holds, each counted each time it is reached (what is shared counts as often as it is met; a slice's spare places count too). A statement '..UptoSaid' is the law's where the arguments, and the package variables that the reading takes, are together of bulk at most 1048576: NARROWER than '..Said'. Prove '..Said' where nothing that the law and all that it calls make is longer than what came in: it says more and counts as full. Else prove '..UptoSaid'. A law counts once. -/
mutual
def uptoBulk {H : Type} : DataW H → Nat
  | .lit (.string bytes) => bytes.length + 1
  | .lit _ => 1
  | .nil => 1
  | .ptr d => uptoBulk d + 1
  | .slice elems spare => uptoBulkAll elems + uptoBulkAll spare + 1
  | .agg parts => uptoBulkAll parts + 1
  | .iface _ d => uptoBulk d + 1
  | .map entries => uptoBulkEntries entries + 1
  | .held _ => 1
def uptoBulkAll {H : Type} : List (DataW H) → Nat
  | [] => 0
  | d :: r => uptoBulk d + uptoBulkAll r
def uptoBulkEntries {H : Type} : List (Lit × DataW H) → Nat
  | [] => 0
  | x :: r => uptoBulkEntry x + uptoBulkEntries r
def uptoBulkEntry {H : Type} : Lit × DataW H → Nat
  | (.string bytes, d) => bytes.length + uptoBulk d + 1
  | (_, d) => uptoBulk d + 1
 end
def uptoSmall : (H : Type) → List (DataW H) → Bool := fun _ ds => decide (uptoBulkAll ds ≤ 1048576)
def OpenSpec.upto (s : _root_.Go.ChangeSpec) : _root_.Go.OpenSpec := { _root_.Go.OpenSpec.ofChange s with cond := some uptoSmall }

/-- 'halyardlaw08.OptionTells', WHERE WHAT IT READS IS OF BULK AT MOST 1048576: true; the input reads as it did. -/
def optionTellsUptoRow : OpenClaim := { program := "ytbmifcfgpmgcpaa", sum := "446ce8bb31ccdc8027065f1b4a3b39ad78ffdb121a17233a2cb48f34034bd5c8", func := "halyard/halyardlaw08.OptionTells", spec := "optionTells", unfollowed := true, recurses := true, apart := false, narrowed := true }
def OptionTellsUptoSaid : Prop := optionTellsUptoRow.holds Try.pinned (OpenSpec.upto optionTellsSpec)

/-- 'halyardlaw08.OptionBack', WHERE WHAT IT READS IS OF BULK AT MOST 1048576: true; the input reads as it did. -/
def optionBackUptoRow : OpenClaim := { program := "ytbmifcfgpmgcpaa", sum := "446ce8bb31ccdc8027065f1b4a3b39ad78ffdb121a17233a2cb48f34034bd5c8", func := "halyard/halyardlaw08.OptionBack", spec := "optionBack", unfollowed := true, recurses := true, apart := false, narrowed := true }
def OptionBackUptoSaid : Prop := optionBackUptoRow.holds Try.pinned (OpenSpec.upto optionBackSpec)

/-- 'halyardlaw08.OptionJoins', WHERE WHAT IT READS IS OF BULK AT MOST 1048576: true; the input reads as it did. -/
def optionJoinsUptoRow : OpenClaim := { program := "ytbmifcfgpmgcpaa", sum := "446ce8bb31ccdc8027065f1b4a3b39ad78ffdb121a17233a2cb48f34034bd5c8", func := "halyard/halyardlaw08.OptionJoins", spec := "optionJoins", unfollowed := true, recurses := true, apart := false, narrowed := true }
def OptionJoinsUptoSaid : Prop := optionJoinsUptoRow.holds Try.pinned (OpenSpec.upto optionJoinsSpec)

/-- 'halyardlaw08.OptionParts', WHERE WHAT IT READS IS OF BULK AT MOST 1048576: true; the input reads as it did. -/
def optionPartsUptoRow : OpenClaim := { program := "ytbmifcfgpmgcpaa", sum := "446ce8bb31ccdc8027065f1b4a3b39ad78ffdb121a17233a2cb48f34034bd5c8", func := "halyard/halyardlaw08.OptionParts", spec := "optionParts", unfollowed := true, recurses := true, apart := false, narrowed := true }
def OptionPartsUptoSaid : Prop := optionPartsUptoRow.holds Try.pinned (OpenSpec.upto optionPartsSpec)

end Rows
end Go.Proofs.Ytbmifcfgpmgcpaa
