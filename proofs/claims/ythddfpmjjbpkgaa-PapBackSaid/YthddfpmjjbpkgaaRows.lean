/-
  No cell of these rows narrows 'for every input' (looked for: loops, veiled, ifaces, maps, wideKeys, modest, calm, conditions, laid).
  DERIVED. THE GIVEN ROWS OF THIS SEAT. 3 by the template 'for every input the law returns true; each argument reads behind the call as it read before'; 0 by the template 'total and deterministic' (their statements: YthddfpmjjbpkgaaTotals.lean).
  GIVEN WITH THE SEED: the statements are not yours to turn. If you find one false, say at which input.
  Laid BY PROGRAM, IN A SANDBOX (cutbox-rows.mjs): the forced cells as the released guide's own fill.sh prints them over the translation d62a2fc6389d5c1b… (all of the seat's roots in one cut). By AI agents, Wed Nov 11 2026. No macro, syntax, notation, axiom, sorry.
-/
import Derived.Test.YthddfpmjjbpkgaaChecked
import GoSem.Claim
import GoSem.ClaimJoined
import GoSem.ClaimMapViews
import Derived.JoinedTies
import Derived.KernelRfl
namespace Go.Proofs.Ythddfpmjjbpkgaa
/- THE CELL 'sum', in the pinned program and in every row, IS THE sha256 OF THE DUMP (.gsa) THAT YthddfpmjjbpkgaaProg.lean LOADS. Nothing in Lean hashes anything: it is a label: what it is worth is what the hold of that sum in a sandbox is worth. -/
noncomputable def Try.pinned : Pinned := { name := "ythddfpmjjbpkgaa", sum := "d62a2fc6389d5c1bbf78639f4f8f81b3ac9d78ffb54bad86e6bb944531ef95bd", checked := Try.checked }
namespace Rows
def none {H : Type} : Left H := { results := [], args := [] }

/-- 'halyardlaw18.PapTells': WHATEVER THE INPUT: true; the input reads as it did. -/
def papTellsSpec : ChangeSpec := { name := "papTells", fn := fun _ => fun
  | [d1, d2, d3, d4, d5] => { results := [.lit (.bool true)], args := [d1, d2, d3, d4, d5] }
  | _ => none }
def papTellsRow : OpenClaim := { program := "ythddfpmjjbpkgaa", sum := "d62a2fc6389d5c1bbf78639f4f8f81b3ac9d78ffb54bad86e6bb944531ef95bd", func := "halyard/halyardlaw18.PapTells", spec := "papTells", unfollowed := true, recurses := true, apart := false }
def PapTellsSaid : Prop := papTellsRow.holds Try.pinned (OpenSpec.ofChange papTellsSpec)

/-- ITS FALSE NEIGHBOUR: 'it returns false'. Refute it at one input. -/
def papTellsWrong : ChangeSpec := { name := "papTells", fn := fun _ => fun
  | [d1, d2, d3, d4, d5] => { results := [.lit (.bool false)], args := [d1, d2, d3, d4, d5] }
  | _ => none }
def PapTellsWrongFalsely : Prop := papTellsRow.holds Try.pinned (OpenSpec.ofChange papTellsWrong)

/-- 'halyardlaw18.PapBack': WHATEVER THE INPUT: true; the input reads as it did. -/
def papBackSpec : ChangeSpec := { name := "papBack", fn := fun _ => fun
  | [d1, d2, d3, d4, d5] => { results := [.lit (.bool true)], args := [d1, d2, d3, d4, d5] }
  | _ => none }
def papBackRow : OpenClaim := { program := "ythddfpmjjbpkgaa", sum := "d62a2fc6389d5c1bbf78639f4f8f81b3ac9d78ffb54bad86e6bb944531ef95bd", func := "halyard/halyardlaw18.PapBack", spec := "papBack", unfollowed := true, recurses := true, apart := false }
def PapBackSaid : Prop := papBackRow.holds Try.pinned (OpenSpec.ofChange papBackSpec)

/-- ITS FALSE NEIGHBOUR: 'it returns false'. Refute it at one input. -/
def papBackWrong : ChangeSpec := { name := "papBack", fn := fun _ => fun
  | [d1, d2, d3, d4, d5] => { results := [.lit (.bool false)], args := [d1, d2, d3, d4, d5] }
  | _ => none }
def PapBackWrongFalsely : Prop := papBackRow.holds Try.pinned (OpenSpec.ofChange papBackWrong)

/-- 'halyardlaw18.PapApart': WHATEVER THE INPUT: true; the input reads as it did. -/
def papApartSpec : ChangeSpec := { name := "papApart", fn := fun _ => fun
  | [d1, d2, d3, d4, d5] => { results := [.lit (.bool true)], args := [d1, d2, d3, d4, d5] }
  | _ => none }
def papApartRow : OpenClaim := { program := "ythddfpmjjbpkgaa", sum := "d62a2fc6389d5c1bbf78639f4f8f81b3ac9d78ffb54bad86e6bb944531ef95bd", func := "halyard/halyardlaw18.PapApart", spec := "papApart", unfollowed := true, recurses := true, apart := false }
def PapApartSaid : Prop := papApartRow.holds Try.pinned (OpenSpec.ofChange papApartSpec)

/-- ITS FALSE NEIGHBOUR: 'it returns false'. Refute it at one input. -/
def papApartWrong : ChangeSpec := { name := "papApart", fn := fun _ => fun
  | [d1, d2, d3, d4, d5] => { results := [.lit (.bool false)], args := [d1, d2, d3, d4, d5] }
  | _ => none }
def PapApartWrongFalsely : Prop := papApartRow.holds Try.pinned (OpenSpec.ofChange papApartWrong)

/- THE SECOND FORM. 'bulk': how many values and letters a reading holds, each counted each time it is reached (what is shared counts as often as it is met; a slice's spare places count too). A statement '..UptoSaid' is the law's where the arguments, and the package variables that the reading takes, are together of bulk at most 1048576: NARROWER than '..Said'. Prove '..Said' where nothing that the law and all that it calls make is longer than what came in: it says more and counts as full. Else prove '..UptoSaid'. A law counts once. -/
mutual
def uptoBulk {H : Type} : DataW H → Nat
  | .lit (.string bytes) => bytes.length + 1
  | .lit _ => 1
  | .nil => 1
  | .ptr d => uptoBulk d + 1
  | .slice elems spare => uptoBulkAll elems + uptoBulkAll spare + 1
  | .agg parts => uptoBulkAll parts + 1
  | .iface _ d => uptoBulk d + 1
  | .map entries => uptoBulkEntries entries + 1
  | .held _ => 1
def uptoBulkAll {H : Type} : List (DataW H) → Nat
  | [] => 0
  | d :: r => uptoBulk d + uptoBulkAll r
def uptoBulkEntries {H : Type} : List (Lit × DataW H) → Nat
  | [] => 0
  | x :: r => uptoBulkEntry x + uptoBulkEntries r
def uptoBulkEntry {H : Type} : Lit × DataW H → Nat
  | (.string bytes, d) => bytes.length + uptoBulk d + 1
  | (_, d) => uptoBulk d + 1
 end
def uptoSmall : (H : Type) → List (DataW H) → Bool := fun _ ds => decide (uptoBulkAll ds ≤ 1048576)
def OpenSpec.upto (s : _root_.Go.ChangeSpec) : _root_.Go.OpenSpec := { _root_.Go.OpenSpec.ofChange s with cond := some uptoSmall }

/-- 'halyardlaw18.PapTells', WHERE WHAT IT READS IS OF BULK AT MOST 1048576: true; the input reads as it did. -/
def papTellsUptoRow : OpenClaim := { program := "ythddfpmjjbpkgaa", sum := "d62a2fc6389d5c1bbf78639f4f8f81b3ac9d78ffb54bad86e6bb944531ef95bd", func := "halyard/halyardlaw18.PapTells", spec := "papTells", unfollowed := true, recurses := true, apart := false, narrowed := true }
def PapTellsUptoSaid : Prop := papTellsUptoRow.holds Try.pinned (OpenSpec.upto papTellsSpec)

/-- 'halyardlaw18.PapBack', WHERE WHAT IT READS IS OF BULK AT MOST 1048576: true; the input reads as it did. -/
def papBackUptoRow : OpenClaim := { program := "ythddfpmjjbpkgaa", sum := "d62a2fc6389d5c1bbf78639f4f8f81b3ac9d78ffb54bad86e6bb944531ef95bd", func := "halyard/halyardlaw18.PapBack", spec := "papBack", unfollowed := true, recurses := true, apart := false, narrowed := true }
def PapBackUptoSaid : Prop := papBackUptoRow.holds Try.pinned (OpenSpec.upto papBackSpec)

/-- 'halyardlaw18.PapApart', WHERE WHAT IT READS IS OF BULK AT MOST 1048576: true; the input reads as it did. -/
def papApartUptoRow : OpenClaim := { program := "ythddfpmjjbpkgaa", sum := "d62a2fc6389d5c1bbf78639f4f8f81b3ac9d78ffb54bad86e6bb944531ef95bd", func := "halyard/halyardlaw18.PapApart", spec := "papApart", unfollowed := true, recurses := true, apart := false, narrowed := true }
def PapApartUptoSaid : Prop := papApartUptoRow.holds Try.pinned (OpenSpec.upto papApartSpec)

end Rows
end Go.Proofs.Ythddfpmjjbpkgaa
