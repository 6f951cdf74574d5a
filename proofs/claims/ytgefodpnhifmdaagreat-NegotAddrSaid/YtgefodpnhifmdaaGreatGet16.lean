/- Contract of package octet's Get16. -/
import Derived.Test.YtgefodpnhifmdaaGreatHasEx
namespace Go.Proofs.YtgefodpnhifmdaaGreat.Oct
open Go.RowKit
set_option maxHeartbeats 400000 in
set_option maxRecDepth 100000 in
theorem get16_v (s : ByteArray) (w : World) (hs : s.size ≤ maxLen) :
    Calls Tryz.prog 76 #[.string s] w fun e w' => e = .returned (getV .u16 2 s) ∧ ∃ k, w' = w.drewN k := by
  unfold maxLen at hs
  rcases Nat.lt_trichotomy s.size 2 with h | h | h
  · have hv : getV .u16 2 s = .tuple #[.int .u16 0, .int .i64 6] := by simp [getV, getN, getE, h]
    rw [hv]; clear hv
    go_enter Tryz.func76, Tryz.ntmps76
    go_wp2
    go_ret2
    exact ⟨rfl, 0, rfl⟩
  · have hv : getV .u16 2 s = .tuple #[.int .u16 (val s.toList), .int .i64 0] := by simp [getV, getN, getE, h]
    rw [hv]; clear hv
    have h0 : 0 < s.size := by omega
    have h1 : (1 : Int) < s.size := by omega
    have h5 : s.size < 3 := by omega
    have Hh := Lib.hid h; clear h
    go_enter Tryz.func76, Tryz.ntmps76
    go_wp2
    go_quiet (fail)
    go_wp2
    go_ret2
    refine ⟨?_, nq, rfl⟩
    rw [or16, val_two s Hh.out]
    rfl
  · have hv : getV .u16 2 s = .tuple #[.int .u16 0, .int .i64 7] := by
      unfold getV getN getE; rw [if_neg (by omega), if_pos h, if_neg (by omega), if_pos h]; rfl
    rw [hv]; clear hv
    go_enter Tryz.func76, Tryz.ntmps76
    go_wp2
    go_ret2
    exact ⟨rfl, 0, rfl⟩

theorem get16_any (s : ByteArray) (w : World) (hs : s.size ≤ maxLen) :
    Calls Tryz.prog 76 #[.string s] w fun e w' => e = .returned (.tuple #[.int .u16 (getN 2 s), .int .i64 (getE 2 s)]) ∧ ∃ k, w' = w.drewN k := get16_v s w hs

end Go.Proofs.YtgefodpnhifmdaaGreat.Oct
