/- Contract of package octet's Cut. -/
import Derived.Test.YtpppggicihfbgaaGreatProg
import Derived.Test.YtpppggicihfbgaaGreatGPure
import Derived.WalkKit
import Derived.WalkSpells
import Derived.WalkLawsBesides
import Derived.RegionTactic
import Derived.ChangeAlike
import Derived.Deep.QuietTactic
import Derived.Deep.Quiet
import Derived.BigQuiet
import Derived.Lib.Hide
import Derived.Laws.BytesArg
namespace Go.Proofs.YtpppggicihfbgaaGreat.Oct
open Go.RowKit
set_option linter.unusedVariables false



end Go.Proofs.YtpppggicihfbgaaGreat.Oct
