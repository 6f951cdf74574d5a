/- '==' of two options, as facts for all worlds. -/
import Derived.Test.YtpppggicihfbgaaGreatGEqF
import Derived.Test.YtpppggicihfbgaaGreatGOpts
namespace Go.Proofs.YtpppggicihfbgaaGreat.Opt
open Go.RowKit Go.Proofs.YtpppggicihfbgaaGreat.Oct Go.Proofs.YtpppggicihfbgaaGreat.Row Go.Proofs.YtpppggicihfbgaaGreat.Mem

end Go.Proofs.YtpppggicihfbgaaGreat.Opt
