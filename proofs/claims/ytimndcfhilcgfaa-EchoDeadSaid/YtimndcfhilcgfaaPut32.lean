/- Contract of package octet's Put32. -/
import Derived.Test.YtimndcfhilcgfaaConvNew
namespace Go.Proofs.Ytimndcfhilcgfaa.Oct
open Go.RowKit
set_option maxHeartbeats 400000 in
set_option maxRecDepth 100000 in
theorem put32_any (v : Nat) (w : World) (h2 : v < 4294967296) :
    Calls Try.prog 29 #[.int .u32 v] w fun e w' => e = .returned (.string (bOf (numS v 4))) ∧ Below w.heap.size w w' := by
  have hv : bOf (numS v 4) = strOfNums [(v : Int) / 16777216, (v : Int) / 65536 % 256, (v : Int) / 256 % 256, (v : Int) % 256] := by
    rw [nums_bOf, numS_four]
    congr 1
    simp only [List.map_cons, List.map_nil]
    congr 1
    · congr 1; omega
  have H := Lib.hid hv; clear hv
  have hcv := conv_new (P := Try.prog) w 52 9 5 72 (by kernel_rfl) (by kernel_rfl) (by kernel_rfl) [(v : Int) / 16777216, (v : Int) / 65536 % 256, (v : Int) / 256 % 256, (v : Int) % 256] 4
  simp only [List.length_cons, List.length_nil, List.map_cons, List.map_nil] at hcv
  have h1 : (0 : Int) ≤ v := by omega
  have h3 : (v : Int) < 4294967296 := by omega
  rw [H.out]
  go_enter Try.func29, Try.ntmps29
  go_wp2
  go_ret
  exact ⟨rfl, (Below.refl _ _).alloc (Nat.le_refl _) _⟩
end Go.Proofs.Ytimndcfhilcgfaa.Oct
