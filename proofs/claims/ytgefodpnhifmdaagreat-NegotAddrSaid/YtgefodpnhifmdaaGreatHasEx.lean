/- Contract of package octet's hasExactly; what Get16 and Get32 answer. -/
import Derived.Test.YtgefodpnhifmdaaGreatProg
import Derived.Test.YtgefodpnhifmdaaGreatGPure
import Derived.WalkKit
import Derived.WalkSpells
import Derived.WalkLawsBesides
import Derived.RegionTactic
import Derived.ChangeAlike
import Derived.Deep.QuietTactic
import Derived.Deep.Quiet
import Derived.BigQuiet
import Derived.Lib.Hide
import Derived.Laws.BytesArg
namespace Go.Proofs.YtgefodpnhifmdaaGreat.Oct
open Go.RowKit
set_option maxHeartbeats 400000 in
set_option maxRecDepth 100000 in
theorem has_any (s : ByteArray) (n : Int) (w : World) :
    Calls Tryz.prog 82 #[.string s, .int .i64 n] w fun e w' => e = .returned (.int .i64 (if (s.size : Int) < n then 6 else if n < s.size then 7 else 0)) ∧ w = w' := by
  by_cases h0 : (s.size : Int) < n
  · go_enter Tryz.func82, Tryz.ntmps82
    go_wp2
    go_ret
    exact ⟨by simp, rfl⟩
  · by_cases h1 : n < (s.size : Int)
    · go_enter Tryz.func82, Tryz.ntmps82
      go_wp2
      go_ret
      exact ⟨by simp, rfl⟩
    · go_enter Tryz.func82, Tryz.ntmps82
      go_wp2
      go_ret
      exact ⟨by simp, rfl⟩

/-- What Get16 and Get32 answer. -/
def getE (n : Nat) (s : ByteArray) : Int := if s.size < n then 6 else if n < s.size then 7 else 0
def getN (n : Nat) (s : ByteArray) : Nat := if s.size < n then 0 else if n < s.size then 0 else val s.toList
def getV (k : IntKind) (n : Nat) (s : ByteArray) : Value := .tuple #[.int k (getN n s), .int .i64 (getE n s)]

end Go.Proofs.YtgefodpnhifmdaaGreat.Oct
