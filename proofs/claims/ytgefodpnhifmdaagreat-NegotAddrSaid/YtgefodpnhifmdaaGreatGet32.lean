/- Contract of package octet's Get32. -/
import Derived.Test.YtgefodpnhifmdaaGreatHasEx
namespace Go.Proofs.YtgefodpnhifmdaaGreat.Oct
open Go.RowKit
set_option maxHeartbeats 400000 in
set_option maxRecDepth 100000 in
theorem get32_v (s : ByteArray) (w : World) (hs : s.size ≤ maxLen) :
    Calls Tryz.prog 146 #[.string s] w fun e w' => e = .returned (getV .u32 4 s) ∧ ∃ k, w' = w.drewN k := by
  unfold maxLen at hs
  rcases Nat.lt_trichotomy s.size 4 with h | h | h
  · have hv : getV .u32 4 s = .tuple #[.int .u32 0, .int .i64 6] := by simp [getV, getN, getE, h]
    rw [hv]; clear hv
    go_enter Tryz.func146, Tryz.ntmps146
    go_wp2
    go_ret2
    exact ⟨rfl, 0, rfl⟩
  · have hv : getV .u32 4 s = .tuple #[.int .u32 (val s.toList), .int .i64 0] := by simp [getV, getN, getE, h]
    rw [hv]; clear hv
    have h0 : 0 < s.size := by omega
    have h1 : (1 : Int) < s.size := by omega
    have h2 : (2 : Int) < s.size := by omega
    have h3 : (3 : Int) < s.size := by omega
    have h5 : s.size < 5 := by omega
    have Hh := Lib.hid h; clear h
    go_enter Tryz.func146, Tryz.ntmps146
    go_wp2
    go_quiet (fail)
    go_wp2
    go_ret2
    refine ⟨?_, nq, rfl⟩
    rw [or32, val_four s Hh.out]
    rfl
  · have hv : getV .u32 4 s = .tuple #[.int .u32 0, .int .i64 7] := by
      unfold getV getN getE; rw [if_neg (by omega), if_pos h, if_neg (by omega), if_pos h]; rfl
    rw [hv]; clear hv
    go_enter Tryz.func146, Tryz.ntmps146
    go_wp2
    go_ret2
    exact ⟨rfl, 0, rfl⟩

theorem get32_any (s : ByteArray) (w : World) (hs : s.size ≤ maxLen) :
    Calls Tryz.prog 146 #[.string s] w fun e w' => e = .returned (.tuple #[.int .u32 (getN 4 s), .int .i64 (getE 4 s)]) ∧ ∃ k, w' = w.drewN k := get32_v s w hs

end Go.Proofs.YtgefodpnhifmdaaGreat.Oct
