/- Put together: HasEx, Get16, Get32. -/
import Derived.Test.YtpppggicihfbgaaGreatProg
import Derived.Test.YtpppggicihfbgaaGreatGPure
import Derived.WalkKit
import Derived.WalkSpells
import Derived.WalkLawsBesides
import Derived.RegionTactic
import Derived.ChangeAlike
import Derived.Deep.QuietTactic
import Derived.Deep.Quiet
import Derived.BigQuiet
import Derived.Lib.Hide
import Derived.Laws.BytesArg

/- Contract of package octet's hasExactly; what Get16 and Get32 answer. -/
namespace Go.Proofs.YtpppggicihfbgaaGreat.Oct
open Go.RowKit

def getE (n : Nat) (s : ByteArray) : Int := if s.size < n then 6 else if n < s.size then 7 else 0
def getN (n : Nat) (s : ByteArray) : Nat := if s.size < n then 0 else if n < s.size then 0 else val s.toList
def getV (k : IntKind) (n : Nat) (s : ByteArray) : Value := .tuple #[.int k (getN n s), .int .i64 (getE n s)]

end Go.Proofs.YtpppggicihfbgaaGreat.Oct

/- Contract of package octet's Get16. -/
namespace Go.Proofs.YtpppggicihfbgaaGreat.Oct
open Go.RowKit
set_option maxHeartbeats 400000 in
set_option maxRecDepth 100000 in
theorem get16_v (s : ByteArray) (w : World) (hs : s.size ≤ maxLen) :
    Calls Tryz.prog 85 #[.string s] w fun e w' => e = .returned (getV .u16 2 s) ∧ ∃ k, w' = w.drewN k := by
  unfold maxLen at hs
  rcases Nat.lt_trichotomy s.size 2 with h | h | h
  · have hv : getV .u16 2 s = .tuple #[.int .u16 0, .int .i64 6] := by simp [getV, getN, getE, h]
    rw [hv]; clear hv
    go_enter Tryz.func85, Tryz.ntmps85
    go_wp2
    go_ret2
    exact ⟨rfl, 0, rfl⟩
  · have hv : getV .u16 2 s = .tuple #[.int .u16 (val s.toList), .int .i64 0] := by simp [getV, getN, getE, h]
    rw [hv]; clear hv
    have h0 : 0 < s.size := by omega
    have h1 : (1 : Int) < s.size := by omega
    have h5 : s.size < 3 := by omega
    have Hh := Lib.hid h; clear h
    go_enter Tryz.func85, Tryz.ntmps85
    go_wp2
    go_quiet (fail)
    go_wp2
    go_ret2
    refine ⟨?_, nq, rfl⟩
    rw [or16, val_two s Hh.out]
    rfl
  · have hv : getV .u16 2 s = .tuple #[.int .u16 0, .int .i64 7] := by
      unfold getV getN getE; rw [if_neg (by omega), if_pos h, if_neg (by omega), if_pos h]; rfl
    rw [hv]; clear hv
    go_enter Tryz.func85, Tryz.ntmps85
    go_wp2
    go_ret2
    exact ⟨rfl, 0, rfl⟩

theorem get16_any (s : ByteArray) (w : World) (hs : s.size ≤ maxLen) :
    Calls Tryz.prog 85 #[.string s] w fun e w' => e = .returned (.tuple #[.int .u16 (getN 2 s), .int .i64 (getE 2 s)]) ∧ ∃ k, w' = w.drewN k := get16_v s w hs

end Go.Proofs.YtpppggicihfbgaaGreat.Oct

/- Contract of package octet's Get32. -/
namespace Go.Proofs.YtpppggicihfbgaaGreat.Oct
open Go.RowKit
set_option maxHeartbeats 400000 in
set_option maxRecDepth 100000 in
theorem get32_v (s : ByteArray) (w : World) (hs : s.size ≤ maxLen) :
    Calls Tryz.prog 170 #[.string s] w fun e w' => e = .returned (getV .u32 4 s) ∧ ∃ k, w' = w.drewN k := by
  unfold maxLen at hs
  rcases Nat.lt_trichotomy s.size 4 with h | h | h
  · have hv : getV .u32 4 s = .tuple #[.int .u32 0, .int .i64 6] := by simp [getV, getN, getE, h]
    rw [hv]; clear hv
    go_enter Tryz.func170, Tryz.ntmps170
    go_wp2
    go_ret2
    exact ⟨rfl, 0, rfl⟩
  · have hv : getV .u32 4 s = .tuple #[.int .u32 (val s.toList), .int .i64 0] := by simp [getV, getN, getE, h]
    rw [hv]; clear hv
    have h0 : 0 < s.size := by omega
    have h1 : (1 : Int) < s.size := by omega
    have h2 : (2 : Int) < s.size := by omega
    have h3 : (3 : Int) < s.size := by omega
    have h5 : s.size < 5 := by omega
    have Hh := Lib.hid h; clear h
    go_enter Tryz.func170, Tryz.ntmps170
    go_wp2
    go_quiet (fail)
    go_wp2
    go_ret2
    refine ⟨?_, nq, rfl⟩
    rw [or32, val_four s Hh.out]
    rfl
  · have hv : getV .u32 4 s = .tuple #[.int .u32 0, .int .i64 7] := by
      unfold getV getN getE; rw [if_neg (by omega), if_pos h, if_neg (by omega), if_pos h]; rfl
    rw [hv]; clear hv
    go_enter Tryz.func170, Tryz.ntmps170
    go_wp2
    go_ret2
    exact ⟨rfl, 0, rfl⟩

theorem get32_any (s : ByteArray) (w : World) (hs : s.size ≤ maxLen) :
    Calls Tryz.prog 170 #[.string s] w fun e w' => e = .returned (.tuple #[.int .u32 (getN 4 s), .int .i64 (getE 4 s)]) ∧ ∃ k, w' = w.drewN k := get32_v s w hs

end Go.Proofs.YtpppggicihfbgaaGreat.Oct
