/- Contract of package packet's Trim. -/
import Derived.Test.YtpppggicihfbgaaGreatProg
import Derived.Test.YtpppggicihfbgaaGreatGPure
import Derived.Test.YtpppggicihfbgaaGreatGRow
namespace Go.Proofs.YtpppggicihfbgaaGreat.Pkt
open Go.RowKit Go.Proofs.YtpppggicihfbgaaGreat.Oct Go.Proofs.YtpppggicihfbgaaGreat.Row Go.Proofs.YtpppggicihfbgaaGreat.Mem

def tA (s : ByteArray) (n : Int) : ByteArray := if n < 0 then bOf [] else bOf (s.toList.take n.toNat)
def tE (n : Int) : Int := if n < 0 then 2 else 0
set_option maxHeartbeats 400000 in
set_option maxRecDepth 100000 in
theorem trim_any (s : ByteArray) (n : Int) (w : World) (hs : s.size ≤ maxLen) :
    Calls Tryz.prog 94 #[.string s, .int .i64 n] w fun e w' => e = .returned (.tuple #[.string (tA s n), .int .i64 (tE n)]) ∧ w = w' := by
  unfold maxLen at hs
  by_cases h0 : n < 0
  · have HA : Hid (tA s n = bOf [] ∧ tE n = 2) := by show _ ∧ _; simp [tA, tE, h0]
    rw [HA.out.1, HA.out.2]
    go_enter Tryz.func94, Tryz.ntmps94
    go_wp2
    go_ret2
    exact ⟨rfl, rfl⟩
  · have HA : Hid (tA s n = bOf (s.toList.take n.toNat) ∧ tE n = 0) := by show _ ∧ _; simp [tA, tE, h0]
    rw [HA.out.1, HA.out.2]
    by_cases h1 : n ≤ (s.size : Int)
    · have H1 := Lib.hid (extract_front s n.toNat)
      go_enter Tryz.func94, Tryz.ntmps94
      go_wp2
      go_ret2
      exact ⟨by rw [← H1.out]; rfl, rfl⟩
    · have H1 : Hid (s = bOf (s.toList.take n.toNat)) := by
        show _ = _
        rw [List.take_of_length_le (by rw [← size_toList]; omega), bOf_toList]
      go_enter Tryz.func94, Tryz.ntmps94
      go_wp2
      go_ret2
      exact ⟨by rw [← H1.out]; rfl, rfl⟩
end Go.Proofs.YtpppggicihfbgaaGreat.Pkt
