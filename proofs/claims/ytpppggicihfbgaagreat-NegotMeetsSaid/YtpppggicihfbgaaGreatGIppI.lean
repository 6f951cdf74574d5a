/- Put together: IppI, IppJ, IppL, IppM. -/
import Derived.Test.YtpppggicihfbgaaGreatGIpcA
import Derived.Test.YtpppggicihfbgaaGreatGIppE
import Derived.Test.YtpppggicihfbgaaGreatGIppN
import Derived.Test.YtpppggicihfbgaaGreatGOptRf
import Derived.Deep.CutRange
import Derived.OrdersHeld
import Derived.Test.YtpppggicihfbgaaGreatGRow
import Derived.Deep.LoopGhost
import Derived.Deep.RegionHeld3
import Derived.Test.YtpppggicihfbgaaGreatGIppR

/- Contract of improved. -/
set_option linter.unusedSimpArgs false
set_option linter.unusedVariables false
namespace Go.Proofs.YtpppggicihfbgaaGreat.Ipp
open Go.RowKit Go.Proofs.YtpppggicihfbgaaGreat.Oct Go.Proofs.YtpppggicihfbgaaGreat.Row Go.Proofs.YtpppggicihfbgaaGreat.Mem Go.Proofs.YtpppggicihfbgaaGreat.Opt Go.Proofs.YtpppggicihfbgaaGreat.Ipc

structure Im (w wr : World) (bw : Unit) (o : Opt) (g : Nat) (p : Po) (a b c : Value) (x : Ipc) (bx : Nat) : Prop where
  p : PAt wr g p
  o : At wr w.heap.size o
  s : Blk wr (w.heap.size + 1) [a, b, c] 310
  r : At wr (w.heap.size + 1 + 1) (0, ⟨#[]⟩)
  x : LAt wr bx x
  b : Below w.heap.size w wr
  n : w.heap.size + 1 + 1 < bx
theorem Im.callee {w wr w' : World} {bw : Unit} {o : Opt} {g : Nat} {p : Po} {a b c : Value} {x : Ipc} {bx : Nat} (h : Im w wr bw o g p a b c x bx) (hb : Below wr.heap.size wr w') : Im w w' bw o g p a b c x bx :=
  ⟨h.p.callee hb, h.o.callee hb, Blk.callee h.s hb, h.r.callee hb, h.x.callee hb, h.b.trans (hb.mono h.b.size), h.n⟩
theorem Im.cells {w wr : World} {bw : Unit} {o : Opt} {g : Nat} {p : Po} {a b c : Value} {x : Ipc} {bx : Nat} (h : Im w wr bw o g p a b c x bx) : wr.cell? ⟨w.heap.size, 0, none⟩ = some (.int .u8 o.1.toNat) ∧ wr.cell? ⟨w.heap.size + 1, 0, none⟩ = some a ∧ wr.cell? ⟨bx, 0, none⟩ = some (Value.bool x.ha) ∧ wr.cell? ⟨bx, 1, none⟩ = some (.int .u32 x.addr.toNat) ∧ wr.cell? ⟨bx, 2, none⟩ = some (.bool x.h1) ∧ wr.cell? ⟨bx, 3, none⟩ = some (.int .u32 x.dns1.toNat) ∧ wr.cell? ⟨bx, 4, none⟩ = some (.bool x.h2) ∧ wr.cell? ⟨bx, 5, none⟩ = some (.int .u32 x.dns2.toNat) :=
  ⟨h.o.c0, Blk.at_ h.s 0, h.x.c 0, h.x.c 1, h.x.c 2, h.x.c 3, h.x.c 4, h.x.c 5⟩
end Go.Proofs.YtpppggicihfbgaaGreat.Ipp

/- Contract of evaluate. -/
set_option linter.unusedSimpArgs false
set_option linter.unusedVariables false
namespace Go.Proofs.YtpppggicihfbgaaGreat.Ipp
open Go.RowKit Go.Proofs.YtpppggicihfbgaaGreat.Oct Go.Proofs.YtpppggicihfbgaaGreat.Row Go.Proofs.YtpppggicihfbgaaGreat.Mem Go.Proofs.YtpppggicihfbgaaGreat.Opt Go.Proofs.YtpppggicihfbgaaGreat.Ipc

end Go.Proofs.YtpppggicihfbgaaGreat.Ipp

/- What Judge keeps: rows past a turn of the policy. -/
namespace Go.Proofs.YtpppggicihfbgaaGreat.Ipp
open Go.RowKit Go.Proofs.YtpppggicihfbgaaGreat.Oct Go.Proofs.YtpppggicihfbgaaGreat.Row Go.Proofs.YtpppggicihfbgaaGreat.Mem Go.Proofs.YtpppggicihfbgaaGreat.Opt Go.Proofs.YtpppggicihfbgaaGreat.Ipc

structure Jd (w wr : World) (g : Nat) (p : Po) (A : Option Addr) (n : Nat) (l : List Opt) : Prop where
  hp : PAt wr g p
  hm : Moves (fun k => k = g) w wr
  ho : Opts wr w.heap.size A n l
theorem Jd.callee {w wr w' : World} {g : Nat} {p : Po} {A : Option Addr} {n : Nat} {l : List Opt} (h : Jd w wr g p A n l) (hb : Below wr.heap.size wr w') : Jd w w' g p A n l :=
  ⟨h.hp.callee hb, h.hm.trans (Moves.of_below hb) (fun j hj e => e), h.ho.callee hb h.hm.size⟩
end Go.Proofs.YtpppggicihfbgaaGreat.Ipp

/- Contracts of missing, Judge. -/
namespace Go.Proofs.YtpppggicihfbgaaGreat.Ipp
open Go.RowKit Go.Proofs.YtpppggicihfbgaaGreat.Oct Go.Proofs.YtpppggicihfbgaaGreat.Row Go.Proofs.YtpppggicihfbgaaGreat.Mem Go.Proofs.YtpppggicihfbgaaGreat.Opt Go.Proofs.YtpppggicihfbgaaGreat.Ipc

theorem Jd.drewN {w wr : World} {g : Nat} {p : Po} {A : Option Addr} {n : Nat} {l : List Opt} (h : Jd w wr g p A n l) (k : Nat) : Jd w (wr.drewN k) g p A n l := ⟨h.hp, h.hm.drewN k, h.ho⟩
end Go.Proofs.YtpppggicihfbgaaGreat.Ipp
