/- Put together: IppBa, IppZ. -/
import Derived.Test.YtpppggicihfbgaaGreatGIpcA
import Derived.Test.YtpppggicihfbgaaGreatGIppR

/- Contracts of the map's functions that go by a Nak, and by a Reject. -/
namespace Go.Proofs.YtpppggicihfbgaaGreat.Ipp
open Go.RowKit Go.Proofs.YtpppggicihfbgaaGreat.Oct Go.Proofs.YtpppggicihfbgaaGreat.Row Go.Proofs.YtpppggicihfbgaaGreat.Mem Go.Proofs.YtpppggicihfbgaaGreat.Opt Go.Proofs.YtpppggicihfbgaaGreat.Ipc

/-! ### plain mathematics -/
end Go.Proofs.YtpppggicihfbgaaGreat.Ipp

/- Two policies that come to terms: plain mathematics. -/
namespace Go.Proofs.YtpppggicihfbgaaGreat.Ipp
open Go.Proofs.YtpppggicihfbgaaGreat.Oct Go.Proofs.YtpppggicihfbgaaGreat.Opt Go.Proofs.YtpppggicihfbgaaGreat.Ipc

def ca (own give d1 d2 : UInt32) : Conf := ⟨own, give, d1, d2, false, 5⟩
section
variable {p : Po} {own give d1 d2 : UInt32} (hc : p.c = ca own give d1 d2) (hg : give ≠ 0)
include hc
include hg
end
end Go.Proofs.YtpppggicihfbgaaGreat.Ipp
