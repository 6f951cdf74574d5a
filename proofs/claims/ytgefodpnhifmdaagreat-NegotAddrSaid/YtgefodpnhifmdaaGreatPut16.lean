/- Contract of package octet's Put16. -/
import Derived.Test.YtgefodpnhifmdaaGreatGConvNew
namespace Go.Proofs.YtgefodpnhifmdaaGreat.Oct
open Go.RowKit
set_option maxHeartbeats 400000 in
set_option maxRecDepth 100000 in
theorem put16_any (v : Nat) (w : World) (h2 : v < 65536) :
    Calls Tryz.prog 83 #[.int .u16 v] w fun e w' => e = .returned (.string (bOf (numS v 2))) ∧ Below w.heap.size w w' := by
  have hv : bOf (numS v 2) = strOfNums [(v : Int) / 256, (v : Int) % 256] := by
    rw [nums_bOf, numS_two]
    congr 1
    simp only [List.map_cons, List.map_nil]
    congr 1
    · congr 1; omega
  have H := Lib.hid hv; clear hv
  have hcv := conv_new (P := Tryz.prog) w 23 9 5 182 (by kernel_rfl) (by kernel_rfl) (by kernel_rfl) [(v : Int) / 256, (v : Int) % 256] 2
  simp only [List.length_cons, List.length_nil, List.map_cons, List.map_nil] at hcv
  have h1 : (0 : Int) ≤ v := by omega
  have h3 : (v : Int) < 65536 := by omega
  rw [H.out]
  go_enter Tryz.func83, Tryz.ntmps83
  go_wp2
  go_ret
  exact ⟨rfl, (Below.refl _ _).alloc (Nat.le_refl _) _⟩

end Go.Proofs.YtgefodpnhifmdaaGreat.Oct
