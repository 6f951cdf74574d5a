/- Put together: ConvNew, Put32. -/
import Derived.Test.YtpfbknbloeilmaaDoorProg
import Derived.Test.YtpfbknbloeilmaaDoorPure
import Derived.WalkKit
import Derived.WalkSpells
import Derived.WalkLawsBesides
import Derived.RegionTactic
import Derived.ChangeAlike
import Derived.Deep.QuietTactic
import Derived.Deep.Quiet
import Derived.BigQuiet
import Derived.Lib.Hide
import Derived.Laws.BytesArg

/- A text of bytes that are new. -/
namespace Go.Proofs.YtpfbknbloeilmaaDoor.Oct
open Go.RowKit
theorem conv_new {P : Program} (w : World) (src dst e t : TypeId) (hs : P.underlying src = some (.slice e)) (he : P.underlying e = some (.int .u8)) (hd : P.underlying dst = some .string) (xs : List Int) (c : Nat) :
    (convert src dst (.slice (some ⟨w.heap.size, 0, none⟩) xs.length c)).run P (w.alloc (.cells (xs.map (Value.int .u8)).toArray t)) = .ok (.string (strOfNums xs)) (w.alloc (.cells (xs.map (Value.int .u8)).toArray t)) := by
  refine run_convert_bytes_arg _ src e hs he w.heap.size 0 xs.length c xs rfl (fun i hi => ?_) dst hd
  rw [Nat.zero_add, World.cell?_alloc_new]
  simp [List.getElem?_eq_getElem hi]

end Go.Proofs.YtpfbknbloeilmaaDoor.Oct

/- Contract of package octet's Put32. -/
namespace Go.Proofs.YtpfbknbloeilmaaDoor.Oct
open Go.RowKit
set_option maxHeartbeats 400000 in
set_option maxRecDepth 100000 in
theorem put32_any (v : Nat) (w : World) (h2 : v < 4294967296) :
    Calls Tryd.prog 73 #[.int .u32 v] w fun e w' => e = .returned (.string (bOf (numS v 4))) ∧ Below w.heap.size w w' := by
  have hv : bOf (numS v 4) = strOfNums [(v : Int) / 16777216, (v : Int) / 65536 % 256, (v : Int) / 256 % 256, (v : Int) % 256] := by
    rw [nums_bOf, numS_four]
    congr 1
    simp only [List.map_cons, List.map_nil]
    congr 1
    · congr 1; omega
  have H := Lib.hid hv; clear hv
  have hcv := conv_new (P := Tryd.prog) w 47 9 5 130 (by kernel_rfl) (by kernel_rfl) (by kernel_rfl) [(v : Int) / 16777216, (v : Int) / 65536 % 256, (v : Int) / 256 % 256, (v : Int) % 256] 4
  simp only [List.length_cons, List.length_nil, List.map_cons, List.map_nil] at hcv
  have h1 : (0 : Int) ≤ v := by omega
  have h3 : (v : Int) < 4294967296 := by omega
  rw [H.out]
  go_enter Tryd.func73, Tryd.ntmps73
  go_wp2
  go_ret
  exact ⟨rfl, (Below.refl _ _).alloc (Nat.le_refl _) _⟩
end Go.Proofs.YtpfbknbloeilmaaDoor.Oct
