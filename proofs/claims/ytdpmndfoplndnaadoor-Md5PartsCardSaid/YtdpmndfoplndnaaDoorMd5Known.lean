/- The published digests. -/
import Derived.Test.YtdpmndfoplndnaaDoorMd5Pure
namespace Go.Proofs.YtdpmndfoplndnaaDoor.Md5
open Go.Proofs.YtdpmndfoplndnaaDoor.Oct
set_option maxRecDepth 100000 in
theorem known : asks.map (fun l => hex (md5 l)) = answers := by decide +kernel
end Go.Proofs.YtdpmndfoplndnaaDoor.Md5
