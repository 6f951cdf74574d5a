/- Contracts of slices.Index at options, and of isPart. -/
import Derived.Test.YtpppggicihfbgaaGreatGOpts
import Derived.Test.YtpppggicihfbgaaGreatGPolG
import Derived.Test.YtpppggicihfbgaaGreatGLcoC
import Derived.Test.YtpppggicihfbgaaGreatGOptsApp
namespace Go.Proofs.YtpppggicihfbgaaGreat.Pol
open Go.RowKit Go.Proofs.YtpppggicihfbgaaGreat.Oct Go.Proofs.YtpppggicihfbgaaGreat.Row Go.Proofs.YtpppggicihfbgaaGreat.Mem Go.Proofs.YtpppggicihfbgaaGreat.Opt Go.Proofs.YtpppggicihfbgaaGreat.Lco

end Go.Proofs.YtpppggicihfbgaaGreat.Pol
