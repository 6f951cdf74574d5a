/-
  No cell of these rows narrows 'for every input' (looked for: loops, veiled, ifaces, maps, wideKeys, modest, calm, conditions, laid).
  DERIVED. THE GIVEN ROWS OF THIS SEAT. 3 by the template 'for every input the law returns true; each argument reads behind the call as it read before'; 0 by the template 'total and deterministic' (their statements: YtkabjdejljdbiaaTotals.lean).
  GIVEN WITH THE SEED: the statements are not yours to turn. If you find one false, say at which input.
  Laid BY PROGRAM, IN A SANDBOX (cutbox-rows.mjs): the forced cells as the released guide's own fill.sh prints them over the translation 26ba5fbfab3ea2e1… (all of the seat's roots in one cut). By AI agents, Wed Nov 11 2026. No macro, syntax, notation, axiom, sorry.
-/
import Derived.Test.YtkabjdejljdbiaaChecked
import GoSem.Claim
import GoSem.ClaimJoined
import GoSem.ClaimMapViews
import Derived.JoinedTies
import Derived.KernelRfl
namespace Go.Proofs.Ytkabjdejljdbiaa
/- THE CELL 'sum', in the pinned program and in every row, IS THE sha256 OF THE DUMP (.gsa) THAT YtkabjdejljdbiaaProg.lean LOADS. Nothing in Lean hashes anything: it is a label: what it is worth is what the hold of that sum in a sandbox is worth. -/
noncomputable def Try.pinned : Pinned := { name := "ytkabjdejljdbiaa", sum := "26ba5fbfab3ea2e1936f5587bd9ac6812d4f508379beb7ae42902db5974ed811", checked := Try.checked }
namespace Rows
def none {H : Type} : Left H := { results := [], args := [] }

/-- 'halyardlaw13.AutoPlays': WHATEVER THE INPUT: true; the input reads as it did. -/
def autoPlaysSpec : ChangeSpec := { name := "autoPlays", fn := fun _ => fun
  | [d1, d2] => { results := [.lit (.bool true)], args := [d1, d2] }
  | _ => none }
def autoPlaysRow : OpenClaim := { program := "ytkabjdejljdbiaa", sum := "26ba5fbfab3ea2e1936f5587bd9ac6812d4f508379beb7ae42902db5974ed811", func := "halyard/halyardlaw13.AutoPlays", spec := "autoPlays", unfollowed := true, recurses := true, apart := false }
def AutoPlaysSaid : Prop := autoPlaysRow.holds Try.pinned (OpenSpec.ofChange autoPlaysSpec)

/-- ITS FALSE NEIGHBOUR: 'it returns false'. Refute it at one input. -/
def autoPlaysWrong : ChangeSpec := { name := "autoPlays", fn := fun _ => fun
  | [d1, d2] => { results := [.lit (.bool false)], args := [d1, d2] }
  | _ => none }
def AutoPlaysWrongFalsely : Prop := autoPlaysRow.holds Try.pinned (OpenSpec.ofChange autoPlaysWrong)

/-- 'halyardlaw13.AutoEnds': WHATEVER THE INPUT: true; the input reads as it did. -/
def autoEndsSpec : ChangeSpec := { name := "autoEnds", fn := fun _ => fun
  | [d1, d2] => { results := [.lit (.bool true)], args := [d1, d2] }
  | _ => none }
def autoEndsRow : OpenClaim := { program := "ytkabjdejljdbiaa", sum := "26ba5fbfab3ea2e1936f5587bd9ac6812d4f508379beb7ae42902db5974ed811", func := "halyard/halyardlaw13.AutoEnds", spec := "autoEnds", unfollowed := true, recurses := true, apart := false }
def AutoEndsSaid : Prop := autoEndsRow.holds Try.pinned (OpenSpec.ofChange autoEndsSpec)

/-- ITS FALSE NEIGHBOUR: 'it returns false'. Refute it at one input. -/
def autoEndsWrong : ChangeSpec := { name := "autoEnds", fn := fun _ => fun
  | [d1, d2] => { results := [.lit (.bool false)], args := [d1, d2] }
  | _ => none }
def AutoEndsWrongFalsely : Prop := autoEndsRow.holds Try.pinned (OpenSpec.ofChange autoEndsWrong)

/-- 'halyardlaw13.AutoTimer': WHATEVER THE INPUT: true; the input reads as it did. -/
def autoTimerSpec : ChangeSpec := { name := "autoTimer", fn := fun _ => fun
  | [d1, d2] => { results := [.lit (.bool true)], args := [d1, d2] }
  | _ => none }
def autoTimerRow : OpenClaim := { program := "ytkabjdejljdbiaa", sum := "26ba5fbfab3ea2e1936f5587bd9ac6812d4f508379beb7ae42902db5974ed811", func := "halyard/halyardlaw13.AutoTimer", spec := "autoTimer", unfollowed := true, recurses := true, apart := false }
def AutoTimerSaid : Prop := autoTimerRow.holds Try.pinned (OpenSpec.ofChange autoTimerSpec)

/-- ITS FALSE NEIGHBOUR: 'it returns false'. Refute it at one input. -/
def autoTimerWrong : ChangeSpec := { name := "autoTimer", fn := fun _ => fun
  | [d1, d2] => { results := [.lit (.bool false)], args := [d1, d2] }
  | _ => none }
def AutoTimerWrongFalsely : Prop := autoTimerRow.holds Try.pinned (OpenSpec.ofChange autoTimerWrong)

/- THE SECOND FORM. 'bulk': how many values and letters a reading holds, each counted each time it is reached (what is shared counts as often as it is met; a slice's spare places count too). A statement '..UptoSaid' is the law's where the arguments, and the package variables that the reading takes, are together of bulk at most 1048576: NARROWER than '..Said'. Prove '..Said' where nothing that the law and all that it calls make is longer than what came in: it says more and counts as full. Else prove '..UptoSaid'. A law counts once. -/
mutual
def uptoBulk {H : Type} : DataW H → Nat
  | .lit (.string bytes) => bytes.length + 1
  | .lit _ => 1
  | .nil => 1
  | .ptr d => uptoBulk d + 1
  | .slice elems spare => uptoBulkAll elems + uptoBulkAll spare + 1
  | .agg parts => uptoBulkAll parts + 1
  | .iface _ d => uptoBulk d + 1
  | .map entries => uptoBulkEntries entries + 1
  | .held _ => 1
def uptoBulkAll {H : Type} : List (DataW H) → Nat
  | [] => 0
  | d :: r => uptoBulk d + uptoBulkAll r
def uptoBulkEntries {H : Type} : List (Lit × DataW H) → Nat
  | [] => 0
  | x :: r => uptoBulkEntry x + uptoBulkEntries r
def uptoBulkEntry {H : Type} : Lit × DataW H → Nat
  | (.string bytes, d) => bytes.length + uptoBulk d + 1
  | (_, d) => uptoBulk d + 1
 end
def uptoSmall : (H : Type) → List (DataW H) → Bool := fun _ ds => decide (uptoBulkAll ds ≤ 1048576)
def OpenSpec.upto (s : _root_.Go.ChangeSpec) : _root_.Go.OpenSpec := { _root_.Go.OpenSpec.ofChange s with cond := some uptoSmall }

/-- 'halyardlaw13.AutoPlays', WHERE WHAT IT READS IS OF BULK AT MOST 1048576: true; the input reads as it did. -/
def autoPlaysUptoRow : OpenClaim := { program := "ytkabjdejljdbiaa", sum := "26ba5fbfab3ea2e1936f5587bd9ac6812d4f508379beb7ae42902db5974ed811", func := "halyard/halyardlaw13.AutoPlays", spec := "autoPlays", unfollowed := true, recurses := true, apart := false, narrowed := true }
def AutoPlaysUptoSaid : Prop := autoPlaysUptoRow.holds Try.pinned (OpenSpec.upto autoPlaysSpec)

/-- 'halyardlaw13.AutoEnds', WHERE WHAT IT READS IS OF BULK AT MOST 1048576: true; the input reads as it did. -/
def autoEndsUptoRow : OpenClaim := { program := "ytkabjdejljdbiaa", sum := "26ba5fbfab3ea2e1936f5587bd9ac6812d4f508379beb7ae42902db5974ed811", func := "halyard/halyardlaw13.AutoEnds", spec := "autoEnds", unfollowed := true, recurses := true, apart := false, narrowed := true }
def AutoEndsUptoSaid : Prop := autoEndsUptoRow.holds Try.pinned (OpenSpec.upto autoEndsSpec)

/-- 'halyardlaw13.AutoTimer', WHERE WHAT IT READS IS OF BULK AT MOST 1048576: true; the input reads as it did. -/
def autoTimerUptoRow : OpenClaim := { program := "ytkabjdejljdbiaa", sum := "26ba5fbfab3ea2e1936f5587bd9ac6812d4f508379beb7ae42902db5974ed811", func := "halyard/halyardlaw13.AutoTimer", spec := "autoTimer", unfollowed := true, recurses := true, apart := false, narrowed := true }
def AutoTimerUptoSaid : Prop := autoTimerUptoRow.holds Try.pinned (OpenSpec.upto autoTimerSpec)

end Rows
end Go.Proofs.Ytkabjdejljdbiaa
