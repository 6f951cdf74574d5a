/- Put together: IppCa, IppEa, IppFa. -/
import Derived.Test.YtpppggicihfbgaaGreatGOpts
import Derived.Test.YtpppggicihfbgaaGreatGIppI
import Derived.Test.YtpppggicihfbgaaGreatOptEq
import Derived.Test.YtpppggicihfbgaaGreatGOptsApp
import Derived.Test.YtpppggicihfbgaaGreatGIppBa
import Derived.Test.YtpppggicihfbgaaGreatGIppN
import Derived.Test.YtpppggicihfbgaaGreatGOptA

/- Contracts of slices.Index at options, and of isPart. -/
namespace Go.Proofs.YtpppggicihfbgaaGreat.Ipp
open Go.RowKit Go.Proofs.YtpppggicihfbgaaGreat.Oct Go.Proofs.YtpppggicihfbgaaGreat.Row Go.Proofs.YtpppggicihfbgaaGreat.Mem Go.Proofs.YtpppggicihfbgaaGreat.Opt Go.Proofs.YtpppggicihfbgaaGreat.Ipc

end Go.Proofs.YtpppggicihfbgaaGreat.Ipp

/- Contract of Rejected. -/
namespace Go.Proofs.YtpppggicihfbgaaGreat.Ipp
open Go.RowKit Go.Proofs.YtpppggicihfbgaaGreat.Oct Go.Proofs.YtpppggicihfbgaaGreat.Row Go.Proofs.YtpppggicihfbgaaGreat.Mem Go.Proofs.YtpppggicihfbgaaGreat.Opt Go.Proofs.YtpppggicihfbgaaGreat.Ipc

end Go.Proofs.YtpppggicihfbgaaGreat.Ipp

/- Contracts of Naked, Acked. -/
namespace Go.Proofs.YtpppggicihfbgaaGreat.Ipp
open Go.RowKit Go.Proofs.YtpppggicihfbgaaGreat.Oct Go.Proofs.YtpppggicihfbgaaGreat.Row Go.Proofs.YtpppggicihfbgaaGreat.Mem Go.Proofs.YtpppggicihfbgaaGreat.Opt Go.Proofs.YtpppggicihfbgaaGreat.Ipc

structure Nj (w wr : World) (g m bx B4 : Nat) (q : Po) (x : Ipc) (r : List Opt) (A : Option Addr) (n : Nat) (l : List Opt) (A4 : Option Addr) (n4 : Nat) : Prop where
  hj : Jd w wr g q A n l
  hs : Sy wr m
  hx : LAt wr bx x
  ho : Opts wr B4 A4 n4 r
  hb : B4 ≤ wr.heap.size
  hne : bx ≠ g
theorem Nj.callee {w wr w' : World} {g m bx B4 : Nat} {q : Po} {x : Ipc} {r : List Opt} {A : Option Addr} {n : Nat} {l : List Opt} {A4 : Option Addr} {n4 : Nat} (h : Nj w wr g m bx B4 q x r A n l A4 n4) (hb : Below wr.heap.size wr w') : Nj w w' g m bx B4 q x r A n l A4 n4 :=
  ⟨h.hj.callee hb, h.hs.callee hb, h.hx.callee hb, h.ho.callee hb h.hb, Nat.le_trans h.hb hb.size, h.hne⟩
end Go.Proofs.YtpppggicihfbgaaGreat.Ipp
