/-
  No cell of these rows narrows 'for every input' (looked for: loops, veiled, ifaces, maps, wideKeys, modest, calm, conditions, laid).
  DERIVED. THE GIVEN ROWS OF THIS SEAT. 4 by the template 'for every input the law returns true; each argument reads behind the call as it read before'; 0 by the template 'total and deterministic' (their statements: YtiglblmedaanpaaTotals.lean).
  GIVEN WITH THE SEED: the statements are not yours to turn. If you find one false, say at which input.
  Laid BY PROGRAM, IN A SANDBOX (cutbox-rows.mjs): the forced cells as the released guide's own fill.sh prints them over the translation 2033ae1f9e954867… (all of the seat's roots in one cut). By AI agents, Wed Nov 11 2026. No macro, syntax, notation, axiom, sorry.
-/
import Derived.Test.YtiglblmedaanpaaChecked
import GoSem.Claim
import GoSem.ClaimJoined
import GoSem.ClaimMapViews
import Derived.JoinedTies
import Derived.KernelRfl
namespace Go.Proofs.Ytiglblmedaanpaa
/- THE CELL 'sum', in the pinned program and in every row, IS THE sha256 OF THE DUMP (.gsa) THAT YtiglblmedaanpaaProg.lean LOADS. Nothing in Lean hashes anything: it is a label: what it is worth is what the hold of that sum in a sandbox is worth. -/
noncomputable def Try.pinned : Pinned := { name := "ytiglblmedaanpaa", sum := "2033ae1f9e954867496de928060ca5f25eac611b018bb8303e2f6cf36b73f63c", checked := Try.checked }
namespace Rows
def none {H : Type} : Left H := { results := [], args := [] }

/-- 'halyardlaw12.FsmTells': WHATEVER THE INPUT: true; the input reads as it did. -/
def fsmTellsSpec : ChangeSpec := { name := "fsmTells", fn := fun _ => fun
  | [d1, d2, d3] => { results := [.lit (.bool true)], args := [d1, d2, d3] }
  | _ => none }
def fsmTellsRow : OpenClaim := { program := "ytiglblmedaanpaa", sum := "2033ae1f9e954867496de928060ca5f25eac611b018bb8303e2f6cf36b73f63c", func := "halyard/halyardlaw12.FsmTells", spec := "fsmTells", unfollowed := true, recurses := true, apart := false }
def FsmTellsSaid : Prop := fsmTellsRow.holds Try.pinned (OpenSpec.ofChange fsmTellsSpec)

/-- ITS FALSE NEIGHBOUR: 'it returns false'. Refute it at one input. -/
def fsmTellsWrong : ChangeSpec := { name := "fsmTells", fn := fun _ => fun
  | [d1, d2, d3] => { results := [.lit (.bool false)], args := [d1, d2, d3] }
  | _ => none }
def FsmTellsWrongFalsely : Prop := fsmTellsRow.holds Try.pinned (OpenSpec.ofChange fsmTellsWrong)

/-- 'halyardlaw12.FsmUp': WHATEVER THE INPUT: true; the input reads as it did. -/
def fsmUpSpec : ChangeSpec := { name := "fsmUp", fn := fun _ => fun
  | [d] => { results := [.lit (.bool true)], args := [d] }
  | _ => none }
def fsmUpRow : OpenClaim := { program := "ytiglblmedaanpaa", sum := "2033ae1f9e954867496de928060ca5f25eac611b018bb8303e2f6cf36b73f63c", func := "halyard/halyardlaw12.FsmUp", spec := "fsmUp", unfollowed := true, recurses := true, apart := false }
def FsmUpSaid : Prop := fsmUpRow.holds Try.pinned (OpenSpec.ofChange fsmUpSpec)

/-- ITS FALSE NEIGHBOUR: 'it returns false'. Refute it at one input. -/
def fsmUpWrong : ChangeSpec := { name := "fsmUp", fn := fun _ => fun
  | [d] => { results := [.lit (.bool false)], args := [d] }
  | _ => none }
def FsmUpWrongFalsely : Prop := fsmUpRow.holds Try.pinned (OpenSpec.ofChange fsmUpWrong)

/-- 'halyardlaw12.FsmBoth': WHATEVER THE INPUT: true; the input reads as it did. -/
def fsmBothSpec : ChangeSpec := { name := "fsmBoth", fn := fun _ => fun
  | [d] => { results := [.lit (.bool true)], args := [d] }
  | _ => none }
def fsmBothRow : OpenClaim := { program := "ytiglblmedaanpaa", sum := "2033ae1f9e954867496de928060ca5f25eac611b018bb8303e2f6cf36b73f63c", func := "halyard/halyardlaw12.FsmBoth", spec := "fsmBoth", unfollowed := true, recurses := true, apart := false }
def FsmBothSaid : Prop := fsmBothRow.holds Try.pinned (OpenSpec.ofChange fsmBothSpec)

/-- ITS FALSE NEIGHBOUR: 'it returns false'. Refute it at one input. -/
def fsmBothWrong : ChangeSpec := { name := "fsmBoth", fn := fun _ => fun
  | [d] => { results := [.lit (.bool false)], args := [d] }
  | _ => none }
def FsmBothWrongFalsely : Prop := fsmBothRow.holds Try.pinned (OpenSpec.ofChange fsmBothWrong)

/-- 'halyardlaw12.FsmEnds': WHATEVER THE INPUT: true; the input reads as it did. -/
def fsmEndsSpec : ChangeSpec := { name := "fsmEnds", fn := fun _ => fun
  | [d1, d2] => { results := [.lit (.bool true)], args := [d1, d2] }
  | _ => none }
def fsmEndsRow : OpenClaim := { program := "ytiglblmedaanpaa", sum := "2033ae1f9e954867496de928060ca5f25eac611b018bb8303e2f6cf36b73f63c", func := "halyard/halyardlaw12.FsmEnds", spec := "fsmEnds", unfollowed := true, recurses := true, apart := false }
def FsmEndsSaid : Prop := fsmEndsRow.holds Try.pinned (OpenSpec.ofChange fsmEndsSpec)

/-- ITS FALSE NEIGHBOUR: 'it returns false'. Refute it at one input. -/
def fsmEndsWrong : ChangeSpec := { name := "fsmEnds", fn := fun _ => fun
  | [d1, d2] => { results := [.lit (.bool false)], args := [d1, d2] }
  | _ => none }
def FsmEndsWrongFalsely : Prop := fsmEndsRow.holds Try.pinned (OpenSpec.ofChange fsmEndsWrong)

/- THE SECOND FORM. 'bulk': how many values and letters a reading holds, each counted each time it is reached (what is shared counts as often as it is met; a slice's spare places count too). A statement '..UptoSaid' is the law's where the arguments, and the package variables that the reading takes, are together of bulk at most 1048576: NARROWER than '..Said'. Prove '..Said' where nothing that the law and all that it calls make is longer than what came in: it says more and counts as full. Else prove '..UptoSaid'. A law counts once. -/
mutual
def uptoBulk {H : Type} : DataW H → Nat
  | .lit (.string bytes) => bytes.length + 1
  | .lit _ => 1
  | .nil => 1
  | .ptr d => uptoBulk d + 1
  | .slice elems spare => uptoBulkAll elems + uptoBulkAll spare + 1
  | .agg parts => uptoBulkAll parts + 1
  | .iface _ d => uptoBulk d + 1
  | .map entries => uptoBulkEntries entries + 1
  | .held _ => 1
def uptoBulkAll {H : Type} : List (DataW H) → Nat
  | [] => 0
  | d :: r => uptoBulk d + uptoBulkAll r
def uptoBulkEntries {H : Type} : List (Lit × DataW H) → Nat
  | [] => 0
  | x :: r => uptoBulkEntry x + uptoBulkEntries r
def uptoBulkEntry {H : Type} : Lit × DataW H → Nat
  | (.string bytes, d) => bytes.length + uptoBulk d + 1
  | (_, d) => uptoBulk d + 1
 end
def uptoSmall : (H : Type) → List (DataW H) → Bool := fun _ ds => decide (uptoBulkAll ds ≤ 1048576)
def OpenSpec.upto (s : _root_.Go.ChangeSpec) : _root_.Go.OpenSpec := { _root_.Go.OpenSpec.ofChange s with cond := some uptoSmall }

/-- 'halyardlaw12.FsmTells', WHERE WHAT IT READS IS OF BULK AT MOST 1048576: true; the input reads as it did. -/
def fsmTellsUptoRow : OpenClaim := { program := "ytiglblmedaanpaa", sum := "2033ae1f9e954867496de928060ca5f25eac611b018bb8303e2f6cf36b73f63c", func := "halyard/halyardlaw12.FsmTells", spec := "fsmTells", unfollowed := true, recurses := true, apart := false, narrowed := true }
def FsmTellsUptoSaid : Prop := fsmTellsUptoRow.holds Try.pinned (OpenSpec.upto fsmTellsSpec)

/-- 'halyardlaw12.FsmUp', WHERE WHAT IT READS IS OF BULK AT MOST 1048576: true; the input reads as it did. -/
def fsmUpUptoRow : OpenClaim := { program := "ytiglblmedaanpaa", sum := "2033ae1f9e954867496de928060ca5f25eac611b018bb8303e2f6cf36b73f63c", func := "halyard/halyardlaw12.FsmUp", spec := "fsmUp", unfollowed := true, recurses := true, apart := false, narrowed := true }
def FsmUpUptoSaid : Prop := fsmUpUptoRow.holds Try.pinned (OpenSpec.upto fsmUpSpec)

/-- 'halyardlaw12.FsmBoth', WHERE WHAT IT READS IS OF BULK AT MOST 1048576: true; the input reads as it did. -/
def fsmBothUptoRow : OpenClaim := { program := "ytiglblmedaanpaa", sum := "2033ae1f9e954867496de928060ca5f25eac611b018bb8303e2f6cf36b73f63c", func := "halyard/halyardlaw12.FsmBoth", spec := "fsmBoth", unfollowed := true, recurses := true, apart := false, narrowed := true }
def FsmBothUptoSaid : Prop := fsmBothUptoRow.holds Try.pinned (OpenSpec.upto fsmBothSpec)

/-- 'halyardlaw12.FsmEnds', WHERE WHAT IT READS IS OF BULK AT MOST 1048576: true; the input reads as it did. -/
def fsmEndsUptoRow : OpenClaim := { program := "ytiglblmedaanpaa", sum := "2033ae1f9e954867496de928060ca5f25eac611b018bb8303e2f6cf36b73f63c", func := "halyard/halyardlaw12.FsmEnds", spec := "fsmEnds", unfollowed := true, recurses := true, apart := false, narrowed := true }
def FsmEndsUptoSaid : Prop := fsmEndsUptoRow.holds Try.pinned (OpenSpec.upto fsmEndsSpec)

end Rows
end Go.Proofs.Ytiglblmedaanpaa
