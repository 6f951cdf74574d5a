/-
  No cell of these rows narrows 'for every input' (looked for: loops, veiled, ifaces, maps, wideKeys, modest, calm, conditions, laid).
  DERIVED. THE GIVEN ROWS OF THIS SEAT. 4 by the template 'for every input the law returns true; each argument reads behind the call as it read before'; 0 by the template 'total and deterministic' (their statements: YtikcgcgbcolndaaGreatTotals.lean).
  GIVEN WITH THE SEED: the statements are not yours to turn. If you find one false, say at which input.
  Laid BY PROGRAM, IN A SANDBOX (cutbox-rows.mjs): the forced cells as the released guide's own fill.sh prints them over the translation a29d569a5b9b1a46… (all of the seat's roots in one cut). By AI agents, Wed Nov 11 2026. No macro, syntax, notation, axiom, sorry.
-/
import Derived.Test.YtikcgcgbcolndaaGreatChecked
import GoSem.Claim
import GoSem.ClaimJoined
import GoSem.ClaimMapViews
import Derived.JoinedTies
import Derived.KernelRfl
namespace Go.Proofs.YtikcgcgbcolndaaGreat
/- THE CELL 'sum', in the pinned program and in every row, IS THE sha256 OF THE DUMP (.gsa) THAT YtikcgcgbcolndaaGreatProg.lean LOADS. Nothing in Lean hashes anything: it is a label: what it is worth is what the hold of that sum in a sandbox is worth. -/
noncomputable def Tryz.pinned : Pinned := { name := "ytikcgcgbcolndaagreat", sum := "a29d569a5b9b1a46fd71762eb7b9b73d077eef8a35fb2f94f300f9be54206f52", checked := Tryz.checked }
namespace Rows
def none {H : Type} : Left H := { results := [], args := [] }

/-- 'halyardlaw16.NegotMeets': WHATEVER THE INPUT: true; the input reads as it did. -/
def negotMeetsSpec : ChangeSpec := { name := "negotMeets", fn := fun _ => fun
  | [d1, d2, d3, d4, d5] => { results := [.lit (.bool true)], args := [d1, d2, d3, d4, d5] }
  | _ => none }
def negotMeetsRow : OpenClaim := { program := "ytikcgcgbcolndaagreat", sum := "a29d569a5b9b1a46fd71762eb7b9b73d077eef8a35fb2f94f300f9be54206f52", func := "halyard/halyardlaw16.NegotMeets", spec := "negotMeets", inPlace := ["internal/abi.NoEscape"], unfollowed := true, recurses := true, apart := false }
def NegotMeetsSaid : Prop := negotMeetsRow.holds Tryz.pinned (OpenSpec.ofChange negotMeetsSpec)

/-- ITS FALSE NEIGHBOUR: 'it returns false'. Refute it at one input. -/
def negotMeetsWrong : ChangeSpec := { name := "negotMeets", fn := fun _ => fun
  | [d1, d2, d3, d4, d5] => { results := [.lit (.bool false)], args := [d1, d2, d3, d4, d5] }
  | _ => none }
def NegotMeetsWrongFalsely : Prop := negotMeetsRow.holds Tryz.pinned (OpenSpec.ofChange negotMeetsWrong)

/-- 'halyardlaw16.NegotAddr': WHATEVER THE INPUT: true; the input reads as it did. -/
def negotAddrSpec : ChangeSpec := { name := "negotAddr", fn := fun _ => fun
  | [d1, d2, d3, d4, d5, d6] => { results := [.lit (.bool true)], args := [d1, d2, d3, d4, d5, d6] }
  | _ => none }
def negotAddrRow : OpenClaim := { program := "ytikcgcgbcolndaagreat", sum := "a29d569a5b9b1a46fd71762eb7b9b73d077eef8a35fb2f94f300f9be54206f52", func := "halyard/halyardlaw16.NegotAddr", spec := "negotAddr", inPlace := ["internal/abi.NoEscape"], unfollowed := true, recurses := true, apart := false }
def NegotAddrSaid : Prop := negotAddrRow.holds Tryz.pinned (OpenSpec.ofChange negotAddrSpec)

/-- ITS FALSE NEIGHBOUR: 'it returns false'. Refute it at one input. -/
def negotAddrWrong : ChangeSpec := { name := "negotAddr", fn := fun _ => fun
  | [d1, d2, d3, d4, d5, d6] => { results := [.lit (.bool false)], args := [d1, d2, d3, d4, d5, d6] }
  | _ => none }
def NegotAddrWrongFalsely : Prop := negotAddrRow.holds Tryz.pinned (OpenSpec.ofChange negotAddrWrong)

/-- 'halyardlaw16.NegotDeaf': WHATEVER THE INPUT: true; the input reads as it did. -/
def negotDeafSpec : ChangeSpec := { name := "negotDeaf", fn := fun _ => fun
  | [d1, d2, d3, d4, d5] => { results := [.lit (.bool true)], args := [d1, d2, d3, d4, d5] }
  | _ => none }
def negotDeafRow : OpenClaim := { program := "ytikcgcgbcolndaagreat", sum := "a29d569a5b9b1a46fd71762eb7b9b73d077eef8a35fb2f94f300f9be54206f52", func := "halyard/halyardlaw16.NegotDeaf", spec := "negotDeaf", inPlace := ["internal/abi.NoEscape"], unfollowed := true, recurses := true, apart := false }
def NegotDeafSaid : Prop := negotDeafRow.holds Tryz.pinned (OpenSpec.ofChange negotDeafSpec)

/-- ITS FALSE NEIGHBOUR: 'it returns false'. Refute it at one input. -/
def negotDeafWrong : ChangeSpec := { name := "negotDeaf", fn := fun _ => fun
  | [d1, d2, d3, d4, d5] => { results := [.lit (.bool false)], args := [d1, d2, d3, d4, d5] }
  | _ => none }
def NegotDeafWrongFalsely : Prop := negotDeafRow.holds Tryz.pinned (OpenSpec.ofChange negotDeafWrong)

/-- 'halyardlaw16.NegotLone': WHATEVER THE INPUT: true; the input reads as it did. -/
def negotLoneSpec : ChangeSpec := { name := "negotLone", fn := fun _ => fun
  | [d1, d2] => { results := [.lit (.bool true)], args := [d1, d2] }
  | _ => none }
def negotLoneRow : OpenClaim := { program := "ytikcgcgbcolndaagreat", sum := "a29d569a5b9b1a46fd71762eb7b9b73d077eef8a35fb2f94f300f9be54206f52", func := "halyard/halyardlaw16.NegotLone", spec := "negotLone", inPlace := ["internal/abi.NoEscape"], unfollowed := true, recurses := true, apart := false }
def NegotLoneSaid : Prop := negotLoneRow.holds Tryz.pinned (OpenSpec.ofChange negotLoneSpec)

/-- ITS FALSE NEIGHBOUR: 'it returns false'. Refute it at one input. -/
def negotLoneWrong : ChangeSpec := { name := "negotLone", fn := fun _ => fun
  | [d1, d2] => { results := [.lit (.bool false)], args := [d1, d2] }
  | _ => none }
def NegotLoneWrongFalsely : Prop := negotLoneRow.holds Tryz.pinned (OpenSpec.ofChange negotLoneWrong)

/- THE SECOND FORM. 'bulk': how many values and letters a reading holds, each counted each time it is reached (what is shared counts as often as it is met; a slice's spare places count too). A statement '..UptoSaid' is the law's where the arguments, and the package variables that the reading takes, are together of bulk at most 1048576: NARROWER than '..Said'. Prove '..Said' where nothing that the law and all that it calls make is longer than what came in: it says more and counts as full. Else prove '..UptoSaid'. A law counts once. -/
mutual
def uptoBulk {H : Type} : DataW H → Nat
  | .lit (.string bytes) => bytes.length + 1
  | .lit _ => 1
  | .nil => 1
  | .ptr d => uptoBulk d + 1
  | .slice elems spare => uptoBulkAll elems + uptoBulkAll spare + 1
  | .agg parts => uptoBulkAll parts + 1
  | .iface _ d => uptoBulk d + 1
  | .map entries => uptoBulkEntries entries + 1
  | .held _ => 1
def uptoBulkAll {H : Type} : List (DataW H) → Nat
  | [] => 0
  | d :: r => uptoBulk d + uptoBulkAll r
def uptoBulkEntries {H : Type} : List (Lit × DataW H) → Nat
  | [] => 0
  | x :: r => uptoBulkEntry x + uptoBulkEntries r
def uptoBulkEntry {H : Type} : Lit × DataW H → Nat
  | (.string bytes, d) => bytes.length + uptoBulk d + 1
  | (_, d) => uptoBulk d + 1
 end
def uptoSmall : (H : Type) → List (DataW H) → Bool := fun _ ds => decide (uptoBulkAll ds ≤ 1048576)
def OpenSpec.upto (s : _root_.Go.ChangeSpec) : _root_.Go.OpenSpec := { _root_.Go.OpenSpec.ofChange s with cond := some uptoSmall }

/-- 'halyardlaw16.NegotMeets', WHERE WHAT IT READS IS OF BULK AT MOST 1048576: true; the input reads as it did. -/
def negotMeetsUptoRow : OpenClaim := { program := "ytikcgcgbcolndaagreat", sum := "a29d569a5b9b1a46fd71762eb7b9b73d077eef8a35fb2f94f300f9be54206f52", func := "halyard/halyardlaw16.NegotMeets", spec := "negotMeets", inPlace := ["internal/abi.NoEscape"], unfollowed := true, recurses := true, apart := false, narrowed := true }
def NegotMeetsUptoSaid : Prop := negotMeetsUptoRow.holds Tryz.pinned (OpenSpec.upto negotMeetsSpec)

/-- 'halyardlaw16.NegotAddr', WHERE WHAT IT READS IS OF BULK AT MOST 1048576: true; the input reads as it did. -/
def negotAddrUptoRow : OpenClaim := { program := "ytikcgcgbcolndaagreat", sum := "a29d569a5b9b1a46fd71762eb7b9b73d077eef8a35fb2f94f300f9be54206f52", func := "halyard/halyardlaw16.NegotAddr", spec := "negotAddr", inPlace := ["internal/abi.NoEscape"], unfollowed := true, recurses := true, apart := false, narrowed := true }
def NegotAddrUptoSaid : Prop := negotAddrUptoRow.holds Tryz.pinned (OpenSpec.upto negotAddrSpec)

/-- 'halyardlaw16.NegotDeaf', WHERE WHAT IT READS IS OF BULK AT MOST 1048576: true; the input reads as it did. -/
def negotDeafUptoRow : OpenClaim := { program := "ytikcgcgbcolndaagreat", sum := "a29d569a5b9b1a46fd71762eb7b9b73d077eef8a35fb2f94f300f9be54206f52", func := "halyard/halyardlaw16.NegotDeaf", spec := "negotDeaf", inPlace := ["internal/abi.NoEscape"], unfollowed := true, recurses := true, apart := false, narrowed := true }
def NegotDeafUptoSaid : Prop := negotDeafUptoRow.holds Tryz.pinned (OpenSpec.upto negotDeafSpec)

/-- 'halyardlaw16.NegotLone', WHERE WHAT IT READS IS OF BULK AT MOST 1048576: true; the input reads as it did. -/
def negotLoneUptoRow : OpenClaim := { program := "ytikcgcgbcolndaagreat", sum := "a29d569a5b9b1a46fd71762eb7b9b73d077eef8a35fb2f94f300f9be54206f52", func := "halyard/halyardlaw16.NegotLone", spec := "negotLone", inPlace := ["internal/abi.NoEscape"], unfollowed := true, recurses := true, apart := false, narrowed := true }
def NegotLoneUptoSaid : Prop := negotLoneUptoRow.holds Tryz.pinned (OpenSpec.upto negotLoneSpec)

end Rows
end Go.Proofs.YtikcgcgbcolndaaGreat
