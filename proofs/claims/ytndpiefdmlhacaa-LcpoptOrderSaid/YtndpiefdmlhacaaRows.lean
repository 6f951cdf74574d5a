/-
  No cell of these rows narrows 'for every input' (looked for: loops, veiled, ifaces, maps, wideKeys, modest, calm, conditions, laid).
  DERIVED. THE GIVEN ROWS OF THIS SEAT. 4 by the template 'for every input the law returns true; each argument reads behind the call as it read before'; 0 by the template 'total and deterministic' (their statements: YtndpiefdmlhacaaTotals.lean).
  GIVEN WITH THE SEED: the statements are not yours to turn. If you find one false, say at which input.
  Laid BY PROGRAM, IN A SANDBOX (cutbox-rows.mjs): the forced cells as the released guide's own fill.sh prints them over the translation 5eab3c7622765a44… (all of the seat's roots in one cut). By AI agents, Wed Nov 11 2026. No macro, syntax, notation, axiom, sorry.
-/
import Derived.Test.YtndpiefdmlhacaaChecked
import GoSem.Claim
import GoSem.ClaimJoined
import GoSem.ClaimMapViews
import Derived.JoinedTies
import Derived.KernelRfl
namespace Go.Proofs.Ytndpiefdmlhacaa
/- THE CELL 'sum', in the pinned program and in every row, IS THE sha256 OF THE DUMP (.gsa) THAT YtndpiefdmlhacaaProg.lean LOADS. Nothing in Lean hashes anything: it is a label: what it is worth is what the hold of that sum in a sandbox is worth. -/
noncomputable def Try.pinned : Pinned := { name := "ytndpiefdmlhacaa", sum := "5eab3c7622765a446f02279d8d40d4918c907c6745ff175f78bd9eae4ad90d7a", checked := Try.checked }
namespace Rows
def none {H : Type} : Left H := { results := [], args := [] }

/-- 'halyardlaw09.LcpoptTells': WHATEVER THE INPUT: true; the input reads as it did. -/
def lcpoptTellsSpec : ChangeSpec := { name := "lcpoptTells", fn := fun _ => fun
  | [d1, d2, d3] => { results := [.lit (.bool true)], args := [d1, d2, d3] }
  | _ => none }
def lcpoptTellsRow : OpenClaim := { program := "ytndpiefdmlhacaa", sum := "5eab3c7622765a446f02279d8d40d4918c907c6745ff175f78bd9eae4ad90d7a", func := "halyard/halyardlaw09.LcpoptTells", spec := "lcpoptTells", unfollowed := true, recurses := true, apart := false }
def LcpoptTellsSaid : Prop := lcpoptTellsRow.holds Try.pinned (OpenSpec.ofChange lcpoptTellsSpec)

/-- ITS FALSE NEIGHBOUR: 'it returns false'. Refute it at one input. -/
def lcpoptTellsWrong : ChangeSpec := { name := "lcpoptTells", fn := fun _ => fun
  | [d1, d2, d3] => { results := [.lit (.bool false)], args := [d1, d2, d3] }
  | _ => none }
def LcpoptTellsWrongFalsely : Prop := lcpoptTellsRow.holds Try.pinned (OpenSpec.ofChange lcpoptTellsWrong)

/-- 'halyardlaw09.LcpoptBack': WHATEVER THE INPUT: true; the input reads as it did. -/
def lcpoptBackSpec : ChangeSpec := { name := "lcpoptBack", fn := fun _ => fun
  | [d1, d2] => { results := [.lit (.bool true)], args := [d1, d2] }
  | _ => none }
def lcpoptBackRow : OpenClaim := { program := "ytndpiefdmlhacaa", sum := "5eab3c7622765a446f02279d8d40d4918c907c6745ff175f78bd9eae4ad90d7a", func := "halyard/halyardlaw09.LcpoptBack", spec := "lcpoptBack", unfollowed := true, recurses := true, apart := false }
def LcpoptBackSaid : Prop := lcpoptBackRow.holds Try.pinned (OpenSpec.ofChange lcpoptBackSpec)

/-- ITS FALSE NEIGHBOUR: 'it returns false'. Refute it at one input. -/
def lcpoptBackWrong : ChangeSpec := { name := "lcpoptBack", fn := fun _ => fun
  | [d1, d2] => { results := [.lit (.bool false)], args := [d1, d2] }
  | _ => none }
def LcpoptBackWrongFalsely : Prop := lcpoptBackRow.holds Try.pinned (OpenSpec.ofChange lcpoptBackWrong)

/-- 'halyardlaw09.LcpoptOrder': WHATEVER THE INPUT: true; the input reads as it did. -/
def lcpoptOrderSpec : ChangeSpec := { name := "lcpoptOrder", fn := fun _ => fun
  | [d1, d2, d3, d4, d5] => { results := [.lit (.bool true)], args := [d1, d2, d3, d4, d5] }
  | _ => none }
def lcpoptOrderRow : OpenClaim := { program := "ytndpiefdmlhacaa", sum := "5eab3c7622765a446f02279d8d40d4918c907c6745ff175f78bd9eae4ad90d7a", func := "halyard/halyardlaw09.LcpoptOrder", spec := "lcpoptOrder", unfollowed := true, recurses := true, apart := false }
def LcpoptOrderSaid : Prop := lcpoptOrderRow.holds Try.pinned (OpenSpec.ofChange lcpoptOrderSpec)

/-- ITS FALSE NEIGHBOUR: 'it returns false'. Refute it at one input. -/
def lcpoptOrderWrong : ChangeSpec := { name := "lcpoptOrder", fn := fun _ => fun
  | [d1, d2, d3, d4, d5] => { results := [.lit (.bool false)], args := [d1, d2, d3, d4, d5] }
  | _ => none }
def LcpoptOrderWrongFalsely : Prop := lcpoptOrderRow.holds Try.pinned (OpenSpec.ofChange lcpoptOrderWrong)

/-- 'halyardlaw09.LcpoptApart': WHATEVER THE INPUT: true; the input reads as it did. -/
def lcpoptApartSpec : ChangeSpec := { name := "lcpoptApart", fn := fun _ => fun
  | [d1, d2] => { results := [.lit (.bool true)], args := [d1, d2] }
  | _ => none }
def lcpoptApartRow : OpenClaim := { program := "ytndpiefdmlhacaa", sum := "5eab3c7622765a446f02279d8d40d4918c907c6745ff175f78bd9eae4ad90d7a", func := "halyard/halyardlaw09.LcpoptApart", spec := "lcpoptApart", unfollowed := true, recurses := true, apart := false }
def LcpoptApartSaid : Prop := lcpoptApartRow.holds Try.pinned (OpenSpec.ofChange lcpoptApartSpec)

/-- ITS FALSE NEIGHBOUR: 'it returns false'. Refute it at one input. -/
def lcpoptApartWrong : ChangeSpec := { name := "lcpoptApart", fn := fun _ => fun
  | [d1, d2] => { results := [.lit (.bool false)], args := [d1, d2] }
  | _ => none }
def LcpoptApartWrongFalsely : Prop := lcpoptApartRow.holds Try.pinned (OpenSpec.ofChange lcpoptApartWrong)

/- THE SECOND FORM. 'bulk': how many values and letters a reading holds, each counted each time it is reached (what is shared counts as often as it is met; a slice's spare places count too). A statement '..UptoSaid' is the law's where the arguments, and the package variables that the reading takes, are together of bulk at most 1048576: NARROWER than '..Said'. Prove '..Said' where nothing that the law and all that it calls make is longer than what came in: it says more and counts as full. Else prove '..UptoSaid'. A law counts once. -/
mutual
def uptoBulk {H : Type} : DataW H → Nat
  | .lit (.string bytes) => bytes.length + 1
  | .lit _ => 1
  | .nil => 1
  | .ptr d => uptoBulk d + 1
  | .slice elems spare => uptoBulkAll elems + uptoBulkAll spare + 1
  | .agg parts => uptoBulkAll parts + 1
  | .iface _ d => uptoBulk d + 1
  | .map entries => uptoBulkEntries entries + 1
  | .held _ => 1
def uptoBulkAll {H : Type} : List (DataW H) → Nat
  | [] => 0
  | d :: r => uptoBulk d + uptoBulkAll r
def uptoBulkEntries {H : Type} : List (Lit × DataW H) → Nat
  | [] => 0
  | x :: r => uptoBulkEntry x + uptoBulkEntries r
def uptoBulkEntry {H : Type} : Lit × DataW H → Nat
  | (.string bytes, d) => bytes.length + uptoBulk d + 1
  | (_, d) => uptoBulk d + 1
 end
def uptoSmall : (H : Type) → List (DataW H) → Bool := fun _ ds => decide (uptoBulkAll ds ≤ 1048576)
def OpenSpec.upto (s : _root_.Go.ChangeSpec) : _root_.Go.OpenSpec := { _root_.Go.OpenSpec.ofChange s with cond := some uptoSmall }

/-- 'halyardlaw09.LcpoptTells', WHERE WHAT IT READS IS OF BULK AT MOST 1048576: true; the input reads as it did. -/
def lcpoptTellsUptoRow : OpenClaim := { program := "ytndpiefdmlhacaa", sum := "5eab3c7622765a446f02279d8d40d4918c907c6745ff175f78bd9eae4ad90d7a", func := "halyard/halyardlaw09.LcpoptTells", spec := "lcpoptTells", unfollowed := true, recurses := true, apart := false, narrowed := true }
def LcpoptTellsUptoSaid : Prop := lcpoptTellsUptoRow.holds Try.pinned (OpenSpec.upto lcpoptTellsSpec)

/-- 'halyardlaw09.LcpoptBack', WHERE WHAT IT READS IS OF BULK AT MOST 1048576: true; the input reads as it did. -/
def lcpoptBackUptoRow : OpenClaim := { program := "ytndpiefdmlhacaa", sum := "5eab3c7622765a446f02279d8d40d4918c907c6745ff175f78bd9eae4ad90d7a", func := "halyard/halyardlaw09.LcpoptBack", spec := "lcpoptBack", unfollowed := true, recurses := true, apart := false, narrowed := true }
def LcpoptBackUptoSaid : Prop := lcpoptBackUptoRow.holds Try.pinned (OpenSpec.upto lcpoptBackSpec)

/-- 'halyardlaw09.LcpoptOrder', WHERE WHAT IT READS IS OF BULK AT MOST 1048576: true; the input reads as it did. -/
def lcpoptOrderUptoRow : OpenClaim := { program := "ytndpiefdmlhacaa", sum := "5eab3c7622765a446f02279d8d40d4918c907c6745ff175f78bd9eae4ad90d7a", func := "halyard/halyardlaw09.LcpoptOrder", spec := "lcpoptOrder", unfollowed := true, recurses := true, apart := false, narrowed := true }
def LcpoptOrderUptoSaid : Prop := lcpoptOrderUptoRow.holds Try.pinned (OpenSpec.upto lcpoptOrderSpec)

/-- 'halyardlaw09.LcpoptApart', WHERE WHAT IT READS IS OF BULK AT MOST 1048576: true; the input reads as it did. -/
def lcpoptApartUptoRow : OpenClaim := { program := "ytndpiefdmlhacaa", sum := "5eab3c7622765a446f02279d8d40d4918c907c6745ff175f78bd9eae4ad90d7a", func := "halyard/halyardlaw09.LcpoptApart", spec := "lcpoptApart", unfollowed := true, recurses := true, apart := false, narrowed := true }
def LcpoptApartUptoSaid : Prop := lcpoptApartUptoRow.holds Try.pinned (OpenSpec.upto lcpoptApartSpec)

end Rows
end Go.Proofs.Ytndpiefdmlhacaa
