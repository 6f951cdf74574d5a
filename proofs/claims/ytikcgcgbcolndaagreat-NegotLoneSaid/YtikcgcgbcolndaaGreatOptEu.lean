/- A byte's zero value; a text's cells. -/
import Derived.Test.YtikcgcgbcolndaaGreatOptAt
import Derived.Test.YtikcgcgbcolndaaGreatG1
import Derived.OwnWalk
import Derived.Maps.AppendAt
import Derived.Deep.RegionHeld3
import Derived.BigRegion
import Derived.Lib.AppendStr
namespace Go.Proofs.YtikcgcgbcolndaaGreat.Opt
open Go.RowKit Go.Proofs.YtikcgcgbcolndaaGreat.Oct Go.Proofs.YtikcgcgbcolndaaGreat.Row Go.Proofs.YtikcgcgbcolndaaGreat.Mem

set_option maxRecDepth 100000 in
theorem Tryz.info5 : (Tryz.prog.info? 5).map (fun i => (i.zero, i.size, i.bytes)) = some (some (.int .u8 0), 1, 1) := by kernel_rfl
theorem strCells_bytesV (s : ByteArray) : Lib.strCells s = bytesV s.toList := by rw [ByteArray.toList_eq]; rfl
end Go.Proofs.YtikcgcgbcolndaaGreat.Opt
