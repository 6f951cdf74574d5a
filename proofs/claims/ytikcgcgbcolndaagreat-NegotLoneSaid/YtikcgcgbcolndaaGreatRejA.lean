/- Contracts of package reject's isMru, and of the closure that cuts. -/
import Derived.Test.YtikcgcgbcolndaaGreatRejPure
import Derived.Test.YtikcgcgbcolndaaGreatPktT
namespace Go.Proofs.YtikcgcgbcolndaaGreat.Rej
open Go.RowKit Go.Proofs.YtikcgcgbcolndaaGreat.Oct Go.Proofs.YtikcgcgbcolndaaGreat.Row Go.Proofs.YtikcgcgbcolndaaGreat.Mem Go.Proofs.YtikcgcgbcolndaaGreat.Pkt

/-- A Mru that may be. -/
def may (m : Int) : Bool := decide (64 ≤ m) && decide (m ≤ 65535)
set_option maxHeartbeats 400000 in
set_option maxRecDepth 100000 in
theorem mru_any (m : Int) (w : World) :
    Calls Tryz.prog 112 #[.int .i64 m] w fun e w' => e = .returned (.bool (may m)) ∧ w = w' := by
  unfold may
  go_enter Tryz.func112, Tryz.ntmps112
  go_wp2
  all_goals (go_ret; exact ⟨by first | (simp_all; done) | (simp_all; omega), rfl⟩)
theorem tA_nat (s : ByteArray) (k : Nat) : tA s k = bOf (s.toList.take k) ∧ tE k = 0 := by
  unfold tA tE
  rw [if_neg (by omega), if_neg (by omega)]
  exact ⟨rfl, rfl⟩
set_option maxHeartbeats 1000000 in
set_option maxRecDepth 100000 in
theorem cut_any (g k : Nat) (s : ByteArray) (w : World) (hk : k ≤ 65535) (hs : s.size ≤ maxLen) (hb : Boxed w g 3 (.int .i64 k)) :
    Calls Tryz.prog 119 #[.string s, .pointer (some ⟨g, 0, none⟩)] w fun e w' => e = .returned (.string (bOf (s.toList.take k))) ∧ Boxed w' g 3 (.int .i64 (k - (s.toList.take k).length : Nat)) ∧ Moves (fun j => j = g) w w' ∧ w'.heap.size = w.heap.size := by
  have T := Lib.hid (fun w => trim_any s k w hs)
  rw [(tA_nat s k).1, (tA_nat s k).2] at T
  have hz : (bOf (s.toList.take k)).size = (s.toList.take k).length := size_bOf _
  have hle : (s.toList.take k).length ≤ k := List.length_take_le _ _
  have c0 := hb.cell
  have f0 := hb.frozen
  have HB := Lib.hid hb
  clear hb
  generalize (s.toList.take k).length = j at *
  generalize bOf (s.toList.take k) = q at *
  go_enter Tryz.func119, Tryz.ntmps119
  go_wp2_with fail
  refine (T.out _).mono ?_
  rintro e w1 ⟨rfl, rfl⟩
  go_wp2
  go_ret
  have hv : (k : Int) - (j : Int) = ((k - j : Nat) : Int) := by omega
  rw [hv]
  exact ⟨rfl, Blk.set (cs := [_]) HB.out 0 (.int .i64 (k - j : Nat)), (Moves.refl (fun j => j = g) w).setCell ⟨g, 0, none⟩ (fun _ => rfl) _, by simp [World.setCell]⟩
end Go.Proofs.YtikcgcgbcolndaaGreat.Rej
