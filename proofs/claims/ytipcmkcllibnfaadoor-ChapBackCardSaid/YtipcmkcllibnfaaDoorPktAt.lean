/- A packet in a block of its own. -/
import Derived.Test.YtipcmkcllibnfaaDoorProg
import Derived.Test.YtipcmkcllibnfaaDoorBlk
namespace Go.Proofs.YtipcmkcllibnfaaDoor.Pkt
open Go.RowKit Go.Proofs.YtipcmkcllibnfaaDoor.Oct Go.Proofs.YtipcmkcllibnfaaDoor.Row Go.Proofs.YtipcmkcllibnfaaDoor.Mem

/-- A packet lies in block g. -/
def At (W : World) (g : Nat) (c i : UInt8) (s : ByteArray) : Prop := Blk W g [.int .u8 c.toNat, .int .u8 i.toNat, .string s] 23
theorem At.callee {W W' : World} {g : Nat} {c i : UInt8} {s : ByteArray} (h : At W g c i s) (hb : Below W.heap.size W W') : At W' g c i s := Blk.callee h hb
theorem At.alloc {W : World} {g : Nat} {c i : UInt8} {s : ByteArray} (h : At W g c i s) (o : Obj) : At (W.alloc o) g c i s := Blk.alloc h o
theorem at_new (w : World) (c i : UInt8) (s : ByteArray) : At (w.alloc (.cells #[.int .u8 c.toNat, .int .u8 i.toNat, .string s] 23)) w.heap.size c i s := blk_new w [.int .u8 c.toNat, .int .u8 i.toNat, .string s] _
theorem At.c0 {W : World} {g : Nat} {c i : UInt8} {s : ByteArray} (h : At W g c i s) : W.cell? ⟨g, 0, none⟩ = some (.int .u8 c.toNat) := Blk.at_ h 0
theorem At.c1 {W : World} {g : Nat} {c i : UInt8} {s : ByteArray} (h : At W g c i s) : W.cell? ⟨g, 1, none⟩ = some (.int .u8 i.toNat) := Blk.at_ h 1
theorem At.c2 {W : World} {g : Nat} {c i : UInt8} {s : ByteArray} (h : At W g c i s) : W.cell? ⟨g, 2, none⟩ = some (.string s) := Blk.at_ h 2

theorem calls_below_eq {f : FuncId} {args : Array Value} {w : World} {v : Value} (h : Calls Tryd.prog f args w fun e w' => e = .returned v ∧ w = w') : Calls Tryd.prog f args w fun e w' => e = .returned v ∧ Below w.heap.size w w' :=
  h.mono fun _ _ ⟨he, hk⟩ => ⟨he, by rw [← hk]; exact Below.refl _ _⟩
theorem beq_self (s : ByteArray) : (s.toList == s.toList) = true := by simp
set_option maxRecDepth 100000 in
theorem own : ownKnob Tryd.prog.godebug = none := by kernel_rfl
set_option maxRecDepth 100000 in
theorem laidOut : laidOutB Tryd.prog = true := by kernel_rfl
end Go.Proofs.YtipcmkcllibnfaaDoor.Pkt
