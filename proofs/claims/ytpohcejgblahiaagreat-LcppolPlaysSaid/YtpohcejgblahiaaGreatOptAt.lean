/- An option in a block; a named result that is a struct, and one more. -/
import Derived.Test.YtpohcejgblahiaaGreatGOpts
import Derived.Test.YtpohcejgblahiaaGreatBlk
import Derived.Test.YtpohcejgblahiaaGreatProg
import Derived.WalkKit
import Derived.OwnWalk
import Derived.Maps.AppendAt
import Derived.KernelRfl
namespace Go.Proofs.YtpohcejgblahiaaGreat.Opt
open Go.RowKit Go.Proofs.YtpohcejgblahiaaGreat.Oct Go.Proofs.YtpohcejgblahiaaGreat.Row Go.Proofs.YtpohcejgblahiaaGreat.Mem

set_option maxRecDepth 100000 in
theorem Tryz.info51 : (Tryz.prog.info? 51).map (fun i => (i.zero, i.size, i.bytes)) = some (some (.agg #[.int .u8 0, .string ByteArray.empty]), 2, 24) := by kernel_rfl

/-- An option lies in block g. -/
def At (W : World) (g : Nat) (o : Opt) : Prop := Blk W g [.int .u8 o.1.toNat, .string o.2] 51
theorem At.callee {W W' : World} {g : Nat} {o : Opt} (h : At W g o) (hb : Below W.heap.size W W') : At W' g o := Blk.callee h hb
theorem At.below {W W' : World} {g n : Nat} {o : Opt} (h : At W g o) (hb : Below n W W') (hg : g < n) : At W' g o := Blk.below h hb hg
theorem At.alloc {W : World} {g : Nat} {o : Opt} (h : At W g o) (x : Obj) : At (W.alloc x) g o := Blk.alloc h x
theorem at_new (w : World) (t : UInt8) (d : ByteArray) : At (w.alloc (.cells #[.int .u8 t.toNat, .string d] 51)) w.heap.size (t, d) := blk_new w [.int .u8 t.toNat, .string d] _
theorem At.c0 {W : World} {g : Nat} {o : Opt} (h : At W g o) : W.cell? ⟨g, 0, none⟩ = some (.int .u8 o.1.toNat) := Blk.at_ h 0
theorem At.c1 {W : World} {g : Nat} {o : Opt} (h : At W g o) : W.cell? ⟨g, 1, none⟩ = some (.string o.2) := Blk.at_ h 1
theorem At.set {W : World} {g : Nat} {o : Opt} (h : At W g o) (o' : Opt) : At ((W.setCell ⟨g, 0, none⟩ (.int .u8 o'.1.toNat)).setCell ⟨g, 1, none⟩ (.string o'.2)) g o' := (Blk.set h 0 (.int .u8 o'.1.toNat)).set 1 (.string o'.2)
/-- A named result that is a struct in a block of its own, and one more. -/
theorem results_row1 {P : Program} {fn : Func} {p t : Tmp} {ty : TypeId} (h : fn.results = #[.cell p ty, .tmp t]) (tmps : Array Value) (w : World) (g : Nat) (cs : List Value) (tb : TypeId) (d : TypeDesc)
    (hp : tmps.getD p undef = .pointer (some ⟨g, 0, none⟩)) (hg : Blk w g cs tb) (hu : P.underlying ty = some d) (hd : (match d with | .struct _ | .array _ _ => true | _ => false) = true) (hi : (P.info? ty).map (·.size) = some cs.toArray.size) :
    (results fn tmps).run P w = .ok (.tuple #[.agg cs.toArray, tmps.getD t undef]) w := by
  have hp' : tmps[p]?.getD undef = .pointer (some ⟨g, 0, none⟩) := by simpa using hp
  simp only [List.size_toArray] at hi
  simp [results, h, hp', asAddr, run_loadVar_row w g tb ty cs.toArray (0, 0) d hg hu hd (by simpa using hi)]

end Go.Proofs.YtpohcejgblahiaaGreat.Opt
