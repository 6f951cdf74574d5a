/- PktKn: parted from XPktA.lean.tpl. -/
import Derived.Test.YtgefodpnhifmdaaGreatProg
import Derived.Test.YtgefodpnhifmdaaGreatGPure
import Derived.Test.YtgefodpnhifmdaaGreatGTxt
namespace Go.Proofs.YtgefodpnhifmdaaGreat.Pkt
open Go.RowKit Go.Proofs.YtgefodpnhifmdaaGreat.Oct Go.Proofs.YtgefodpnhifmdaaGreat.Row Go.Proofs.YtgefodpnhifmdaaGreat.Mem
theorem known_z (p c : Nat) : known p c = ((((p : Int) == 49185) && (decide ((1 : Int) ≤ c) && decide ((c : Int) ≤ 11))) || (((p : Int) == 32801) && (decide ((1 : Int) ≤ c) && decide ((c : Int) ≤ 7)))) := by
  unfold known
  rw [Bool.eq_iff_iff]; simp; omega
set_option maxHeartbeats 400000 in
set_option maxRecDepth 100000 in
theorem known_any (p c : Nat) (w : World) :
    Calls Tryz.prog 29 #[.int .u16 p, .int .u8 c] w fun e w' => e = .returned (.bool (known p c)) ∧ w = w' := by
  have H := Lib.hid (known_z p c)
  rw [H.out]
  go_enter Tryz.func29, Tryz.ntmps29
  go_wp2
  all_goals (go_ret; exact ⟨by first | (simp_all; done) | (simp_all; omega), rfl⟩)
end Go.Proofs.YtgefodpnhifmdaaGreat.Pkt
