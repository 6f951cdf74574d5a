/- Put together: IppR, IppWay, IppT, IppO. -/
import Derived.Test.YtpppggicihfbgaaGreatGOpts

/- What is suggested: plain mathematics. -/
namespace Go.Proofs.YtpppggicihfbgaaGreat.Ipp
open Go.Proofs.YtpppggicihfbgaaGreat.Oct Go.Proofs.YtpppggicihfbgaaGreat.Opt Go.Proofs.YtpppggicihfbgaaGreat.Ipc

end Go.Proofs.YtpppggicihfbgaaGreat.Ipp

/- Which way Judge goes: plain mathematics. -/
namespace Go.Proofs.YtpppggicihfbgaaGreat.Ipp
open Go.Proofs.YtpppggicihfbgaaGreat.Oct Go.Proofs.YtpppggicihfbgaaGreat.Opt Go.Proofs.YtpppggicihfbgaaGreat.Ipc

end Go.Proofs.YtpppggicihfbgaaGreat.Ipp

/- What comes of a request: plain mathematics for the laws. -/
namespace Go.Proofs.YtpppggicihfbgaaGreat.Ipp
open Go.Proofs.YtpppggicihfbgaaGreat.Oct Go.Proofs.YtpppggicihfbgaaGreat.Opt Go.Proofs.YtpppggicihfbgaaGreat.Ipc


/-! ### a row within a row -/

/-! ### a request that is mended -/
end Go.Proofs.YtpppggicihfbgaaGreat.Ipp

/- What an Ack, and a Nak, say: plain mathematics. -/
namespace Go.Proofs.YtpppggicihfbgaaGreat.Ipp
open Go.Proofs.YtpppggicihfbgaaGreat.Oct Go.Proofs.YtpppggicihfbgaaGreat.Opt Go.Proofs.YtpppggicihfbgaaGreat.Ipc

end Go.Proofs.YtpppggicihfbgaaGreat.Ipp
