/- PktKn: parted from XPktA.lean.tpl. -/
import Derived.Test.YtikcgcgbcolndaaGreatProg
import Derived.Test.YtikcgcgbcolndaaGreatPktPure
import Derived.Test.YtikcgcgbcolndaaGreatG1
namespace Go.Proofs.YtikcgcgbcolndaaGreat.Pkt
open Go.RowKit Go.Proofs.YtikcgcgbcolndaaGreat.Oct Go.Proofs.YtikcgcgbcolndaaGreat.Row Go.Proofs.YtikcgcgbcolndaaGreat.Mem
theorem known_z (p c : Nat) : known p c = ((((p : Int) == 49185) && (decide ((1 : Int) ≤ c) && decide ((c : Int) ≤ 11))) || (((p : Int) == 32801) && (decide ((1 : Int) ≤ c) && decide ((c : Int) ≤ 7)))) := by
  unfold known
  rw [Bool.eq_iff_iff]; simp; omega
set_option maxHeartbeats 400000 in
set_option maxRecDepth 100000 in
theorem known_any (p c : Nat) (w : World) :
    Calls Tryz.prog 53 #[.int .u16 p, .int .u8 c] w fun e w' => e = .returned (.bool (known p c)) ∧ w = w' := by
  have H := Lib.hid (known_z p c)
  rw [H.out]
  go_enter Tryz.func53, Tryz.ntmps53
  go_wp2
  all_goals (go_ret; exact ⟨by first | (simp_all; done) | (simp_all; omega), rfl⟩)
end Go.Proofs.YtikcgcgbcolndaaGreat.Pkt
