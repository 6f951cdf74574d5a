/- Contract of package octet's Cut. -/
import Derived.Test.YtipcmkcllibnfaaDoorProg
import Derived.Test.YtipcmkcllibnfaaDoorPure
import Derived.WalkKit
import Derived.WalkSpells
import Derived.WalkLawsBesides
import Derived.RegionTactic
import Derived.ChangeAlike
import Derived.Deep.QuietTactic
import Derived.Deep.Quiet
import Derived.BigQuiet
import Derived.Lib.Hide
import Derived.Laws.BytesArg
namespace Go.Proofs.YtipcmkcllibnfaaDoor.Oct
open Go.RowKit
set_option linter.unusedVariables false
/-- What Cut answers. -/
def cutE (s : ByteArray) (n : Int) : Int := if n < 0 then 2 else if (s.size : Int) < n then 6 else 0
def cutA (s : ByteArray) (n : Int) : ByteArray := if n < 0 then bOf [] else if (s.size : Int) < n then bOf [] else bOf (s.toList.take n.toNat)
def cutB (s : ByteArray) (n : Int) : ByteArray := if n < 0 then bOf [] else if (s.size : Int) < n then bOf [] else bOf (s.toList.drop n.toNat)
def cutV (s : ByteArray) (n : Int) : Value := .tuple #[.string (cutA s n), .string (cutB s n), .int .i64 (cutE s n)]
theorem cutV_neg (s : ByteArray) (n : Int) (h : n < 0) : cutV s n = .tuple #[.string (bOf []), .string (bOf []), .int .i64 2] := by simp [cutV, cutA, cutB, cutE, h]
theorem cutV_end (s : ByteArray) (n : Int) (h0 : ¬ n < 0) (h : (s.size : Int) < n) : cutV s n = .tuple #[.string (bOf []), .string (bOf []), .int .i64 6] := by simp [cutV, cutA, cutB, cutE, h0, h]
theorem cutV_ok (s : ByteArray) (n : Int) (h0 : ¬ n < 0) (h : ¬ (s.size : Int) < n) : cutV s n = .tuple #[.string (bOf (s.toList.take n.toNat)), .string (bOf (s.toList.drop n.toNat)), .int .i64 0] := by simp [cutV, cutA, cutB, cutE, h0, h]

set_option maxHeartbeats 400000 in
set_option maxRecDepth 100000 in
theorem cut_v (s : ByteArray) (n : Int) (w : World) (hs : s.size ≤ maxLen) :
    Calls Tryd.prog 38 #[.string s, .int .i64 n] w fun e w' => e = .returned (cutV s n) ∧ ∃ k, w' = w.drewN k := by
  unfold maxLen at hs
  by_cases h0 : n < 0
  · rw [cutV_neg s n h0]
    go_enter Tryd.func38, Tryd.ntmps38
    go_wp2
    go_ret3
    exact ⟨rfl, 0, rfl⟩
  · by_cases h1 : (s.size : Int) < n
    · rw [cutV_end s n h0 h1]
      go_enter Tryd.func38, Tryd.ntmps38
      go_wp2
      go_ret3
      exact ⟨rfl, 0, rfl⟩
    · rw [cutV_ok s n h0 h1]
      have H1 := Lib.hid (extract_front s n.toNat)
      have H2 := Lib.hid (extract_rest s n.toNat)
      go_enter Tryd.func38, Tryd.ntmps38
      go_wp2
      go_quiet (fail)
      go_wp2
      go_ret3
      refine ⟨?_, nq, rfl⟩
      rw [H1.out, H2.out]
      rfl

theorem cut_any (s : ByteArray) (n : Int) (w : World) (hs : s.size ≤ maxLen) :
    Calls Tryd.prog 38 #[.string s, .int .i64 n] w fun e w' => e = .returned (.tuple #[.string (cutA s n), .string (cutB s n), .int .i64 (cutE s n)]) ∧ ∃ k, w' = w.drewN k := cut_v s n w hs

end Go.Proofs.YtipcmkcllibnfaaDoor.Oct
