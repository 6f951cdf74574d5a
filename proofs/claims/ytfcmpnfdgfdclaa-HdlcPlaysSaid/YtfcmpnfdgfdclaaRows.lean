/-
  No cell of these rows narrows 'for every input' (looked for: loops, veiled, ifaces, maps, wideKeys, modest, calm, conditions, laid).
  DERIVED. THE GIVEN ROWS OF THIS SEAT. 4 by the template 'for every input the law returns true; each argument reads behind the call as it read before'; 0 by the template 'total and deterministic' (their statements: YtfcmpnfdgfdclaaTotals.lean).
  GIVEN WITH THE SEED: the statements are not yours to turn. If you find one false, say at which input.
  Laid BY PROGRAM, IN A SANDBOX (cutbox-rows.mjs): the forced cells as the released guide's own fill.sh prints them over the translation 48c24bfd3b2f17a7… (all of the seat's roots in one cut). By AI agents, Wed Nov 11 2026. No macro, syntax, notation, axiom, sorry.
-/
import Derived.Test.YtfcmpnfdgfdclaaChecked
import GoSem.Claim
import GoSem.ClaimJoined
import GoSem.ClaimMapViews
import Derived.JoinedTies
import Derived.KernelRfl
namespace Go.Proofs.Ytfcmpnfdgfdclaa
/- THE CELL 'sum', in the pinned program and in every row, IS THE sha256 OF THE DUMP (.gsa) THAT YtfcmpnfdgfdclaaProg.lean LOADS. Nothing in Lean hashes anything: it is a label: what it is worth is what the hold of that sum in a sandbox is worth. -/
noncomputable def Try.pinned : Pinned := { name := "ytfcmpnfdgfdclaa", sum := "48c24bfd3b2f17a7a6aa1ecb50b9102bbbfde37cd9be2efecf7abfea7196c9cc", checked := Try.checked }
namespace Rows
def none {H : Type} : Left H := { results := [], args := [] }

/-- 'halyardlaw04.HdlcPlays': WHATEVER THE INPUT: true; the input reads as it did. -/
def hdlcPlaysSpec : ChangeSpec := { name := "hdlcPlays", fn := fun _ => fun
  | [d1, d2, d3, d4] => { results := [.lit (.bool true)], args := [d1, d2, d3, d4] }
  | _ => none }
def hdlcPlaysRow : OpenClaim := { program := "ytfcmpnfdgfdclaa", sum := "48c24bfd3b2f17a7a6aa1ecb50b9102bbbfde37cd9be2efecf7abfea7196c9cc", func := "halyard/halyardlaw04.HdlcPlays", spec := "hdlcPlays", unfollowed := true, recurses := true, apart := false }
def HdlcPlaysSaid : Prop := hdlcPlaysRow.holds Try.pinned (OpenSpec.ofChange hdlcPlaysSpec)

/-- ITS FALSE NEIGHBOUR: 'it returns false'. Refute it at one input. -/
def hdlcPlaysWrong : ChangeSpec := { name := "hdlcPlays", fn := fun _ => fun
  | [d1, d2, d3, d4] => { results := [.lit (.bool false)], args := [d1, d2, d3, d4] }
  | _ => none }
def HdlcPlaysWrongFalsely : Prop := hdlcPlaysRow.holds Try.pinned (OpenSpec.ofChange hdlcPlaysWrong)

/-- 'halyardlaw04.HdlcBack': WHATEVER THE INPUT: true; the input reads as it did. -/
def hdlcBackSpec : ChangeSpec := { name := "hdlcBack", fn := fun _ => fun
  | [d1, d2, d3, d4, d5, d6] => { results := [.lit (.bool true)], args := [d1, d2, d3, d4, d5, d6] }
  | _ => none }
def hdlcBackRow : OpenClaim := { program := "ytfcmpnfdgfdclaa", sum := "48c24bfd3b2f17a7a6aa1ecb50b9102bbbfde37cd9be2efecf7abfea7196c9cc", func := "halyard/halyardlaw04.HdlcBack", spec := "hdlcBack", unfollowed := true, recurses := true, apart := false }
def HdlcBackSaid : Prop := hdlcBackRow.holds Try.pinned (OpenSpec.ofChange hdlcBackSpec)

/-- ITS FALSE NEIGHBOUR: 'it returns false'. Refute it at one input. -/
def hdlcBackWrong : ChangeSpec := { name := "hdlcBack", fn := fun _ => fun
  | [d1, d2, d3, d4, d5, d6] => { results := [.lit (.bool false)], args := [d1, d2, d3, d4, d5, d6] }
  | _ => none }
def HdlcBackWrongFalsely : Prop := hdlcBackRow.holds Try.pinned (OpenSpec.ofChange hdlcBackWrong)

/-- 'halyardlaw04.HdlcPieces': WHATEVER THE INPUT: true; the input reads as it did. -/
def hdlcPiecesSpec : ChangeSpec := { name := "hdlcPieces", fn := fun _ => fun
  | [d1, d2, d3, d4] => { results := [.lit (.bool true)], args := [d1, d2, d3, d4] }
  | _ => none }
def hdlcPiecesRow : OpenClaim := { program := "ytfcmpnfdgfdclaa", sum := "48c24bfd3b2f17a7a6aa1ecb50b9102bbbfde37cd9be2efecf7abfea7196c9cc", func := "halyard/halyardlaw04.HdlcPieces", spec := "hdlcPieces", unfollowed := true, recurses := true, apart := false }
def HdlcPiecesSaid : Prop := hdlcPiecesRow.holds Try.pinned (OpenSpec.ofChange hdlcPiecesSpec)

/-- ITS FALSE NEIGHBOUR: 'it returns false'. Refute it at one input. -/
def hdlcPiecesWrong : ChangeSpec := { name := "hdlcPieces", fn := fun _ => fun
  | [d1, d2, d3, d4] => { results := [.lit (.bool false)], args := [d1, d2, d3, d4] }
  | _ => none }
def HdlcPiecesWrongFalsely : Prop := hdlcPiecesRow.holds Try.pinned (OpenSpec.ofChange hdlcPiecesWrong)

/-- 'halyardlaw04.HdlcRefuses': WHATEVER THE INPUT: true; the input reads as it did. -/
def hdlcRefusesSpec : ChangeSpec := { name := "hdlcRefuses", fn := fun _ => fun
  | [d1, d2, d3, d4] => { results := [.lit (.bool true)], args := [d1, d2, d3, d4] }
  | _ => none }
def hdlcRefusesRow : OpenClaim := { program := "ytfcmpnfdgfdclaa", sum := "48c24bfd3b2f17a7a6aa1ecb50b9102bbbfde37cd9be2efecf7abfea7196c9cc", func := "halyard/halyardlaw04.HdlcRefuses", spec := "hdlcRefuses", unfollowed := true, recurses := true, apart := false }
def HdlcRefusesSaid : Prop := hdlcRefusesRow.holds Try.pinned (OpenSpec.ofChange hdlcRefusesSpec)

/-- ITS FALSE NEIGHBOUR: 'it returns false'. Refute it at one input. -/
def hdlcRefusesWrong : ChangeSpec := { name := "hdlcRefuses", fn := fun _ => fun
  | [d1, d2, d3, d4] => { results := [.lit (.bool false)], args := [d1, d2, d3, d4] }
  | _ => none }
def HdlcRefusesWrongFalsely : Prop := hdlcRefusesRow.holds Try.pinned (OpenSpec.ofChange hdlcRefusesWrong)

/- THE SECOND FORM. 'bulk': how many values and letters a reading holds, each counted each time it is reached (what is shared counts as often as it is met; a slice's spare places count too). A statement '..UptoSaid' is the law's where the arguments, and the package variables that the reading takes, are together of bulk at most 1048576: NARROWER than '..Said'. Prove '..Said' where nothing that the law and all that it calls make is longer than what came in: it says more and counts as full. Else prove '..UptoSaid'. A law counts once. -/
mutual
def uptoBulk {H : Type} : DataW H → Nat
  | .lit (.string bytes) => bytes.length + 1
  | .lit _ => 1
  | .nil => 1
  | .ptr d => uptoBulk d + 1
  | .slice elems spare => uptoBulkAll elems + uptoBulkAll spare + 1
  | .agg parts => uptoBulkAll parts + 1
  | .iface _ d => uptoBulk d + 1
  | .map entries => uptoBulkEntries entries + 1
  | .held _ => 1
def uptoBulkAll {H : Type} : List (DataW H) → Nat
  | [] => 0
  | d :: r => uptoBulk d + uptoBulkAll r
def uptoBulkEntries {H : Type} : List (Lit × DataW H) → Nat
  | [] => 0
  | x :: r => uptoBulkEntry x + uptoBulkEntries r
def uptoBulkEntry {H : Type} : Lit × DataW H → Nat
  | (.string bytes, d) => bytes.length + uptoBulk d + 1
  | (_, d) => uptoBulk d + 1
 end
def uptoSmall : (H : Type) → List (DataW H) → Bool := fun _ ds => decide (uptoBulkAll ds ≤ 1048576)
def OpenSpec.upto (s : _root_.Go.ChangeSpec) : _root_.Go.OpenSpec := { _root_.Go.OpenSpec.ofChange s with cond := some uptoSmall }

/-- 'halyardlaw04.HdlcPlays', WHERE WHAT IT READS IS OF BULK AT MOST 1048576: true; the input reads as it did. -/
def hdlcPlaysUptoRow : OpenClaim := { program := "ytfcmpnfdgfdclaa", sum := "48c24bfd3b2f17a7a6aa1ecb50b9102bbbfde37cd9be2efecf7abfea7196c9cc", func := "halyard/halyardlaw04.HdlcPlays", spec := "hdlcPlays", unfollowed := true, recurses := true, apart := false, narrowed := true }
def HdlcPlaysUptoSaid : Prop := hdlcPlaysUptoRow.holds Try.pinned (OpenSpec.upto hdlcPlaysSpec)

/-- 'halyardlaw04.HdlcBack', WHERE WHAT IT READS IS OF BULK AT MOST 1048576: true; the input reads as it did. -/
def hdlcBackUptoRow : OpenClaim := { program := "ytfcmpnfdgfdclaa", sum := "48c24bfd3b2f17a7a6aa1ecb50b9102bbbfde37cd9be2efecf7abfea7196c9cc", func := "halyard/halyardlaw04.HdlcBack", spec := "hdlcBack", unfollowed := true, recurses := true, apart := false, narrowed := true }
def HdlcBackUptoSaid : Prop := hdlcBackUptoRow.holds Try.pinned (OpenSpec.upto hdlcBackSpec)

/-- 'halyardlaw04.HdlcPieces', WHERE WHAT IT READS IS OF BULK AT MOST 1048576: true; the input reads as it did. -/
def hdlcPiecesUptoRow : OpenClaim := { program := "ytfcmpnfdgfdclaa", sum := "48c24bfd3b2f17a7a6aa1ecb50b9102bbbfde37cd9be2efecf7abfea7196c9cc", func := "halyard/halyardlaw04.HdlcPieces", spec := "hdlcPieces", unfollowed := true, recurses := true, apart := false, narrowed := true }
def HdlcPiecesUptoSaid : Prop := hdlcPiecesUptoRow.holds Try.pinned (OpenSpec.upto hdlcPiecesSpec)

/-- 'halyardlaw04.HdlcRefuses', WHERE WHAT IT READS IS OF BULK AT MOST 1048576: true; the input reads as it did. -/
def hdlcRefusesUptoRow : OpenClaim := { program := "ytfcmpnfdgfdclaa", sum := "48c24bfd3b2f17a7a6aa1ecb50b9102bbbfde37cd9be2efecf7abfea7196c9cc", func := "halyard/halyardlaw04.HdlcRefuses", spec := "hdlcRefuses", unfollowed := true, recurses := true, apart := false, narrowed := true }
def HdlcRefusesUptoSaid : Prop := hdlcRefusesUptoRow.holds Try.pinned (OpenSpec.upto hdlcRefusesSpec)

end Rows
end Go.Proofs.Ytfcmpnfdgfdclaa
