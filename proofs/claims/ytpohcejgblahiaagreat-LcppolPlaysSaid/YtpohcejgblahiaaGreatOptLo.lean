/- OptLo: parted from XOptAs.lean.tpl. -/
import Derived.Test.YtpohcejgblahiaaGreatOptAs
namespace Go.Proofs.YtpohcejgblahiaaGreat.Opt
open Go.RowKit Go.Proofs.YtpohcejgblahiaaGreat.Oct Go.Proofs.YtpohcejgblahiaaGreat.Row Go.Proofs.YtpohcejgblahiaaGreat.Mem
def LongQ (l : List Opt) (n : Nat) (w : World) (e : Ending) (w' : World) : Prop := ∃ b : Bool, e = .returned (.bool b) ∧ (b = false → n ≤ 70 ∧ dat l ≤ 4096) ∧ w = w'
theorem longQ_true (l : List Opt) (n : Nat) (w : World) : LongQ l n w (.returned (.bool true)) w := ⟨true, rfl, (fun h => by cases h), rfl⟩
set_option maxHeartbeats 1000000 in
set_option maxRecDepth 100000 in
theorem long_any (l : List Opt) (B : Nat) (A : Option Addr) (n c : Nat) (w : World) (hl : Opts w B A n l) (hn : n ≤ maxLen) :
    Calls Tryz.prog 24 #[.slice A n c] w (LongQ l n w) := by
  have Hn := Lib.hid hl.1
  have Hl := Lib.hid hl; clear hl
  unfold maxLen at hn
  go_enter Tryz.func24, Tryz.ntmps24
  go_wp2
  go_loop [3, 4] (fun q i => ∃ k t : Nat, k ≤ n ∧ k ≤ 80 ∧ i = .int .i64 k ∧ q = .int .i64 t ∧ t ≤ 140737488351232 * k ∧ Hid (dat (l.take k) = t)) (fun _ i => n - (intOf i).toNat)
  case atStart => exact ⟨0, 0, Nat.zero_le _, by omega, rfl, rfl, Nat.zero_le _, rfl⟩
  case round =>
    obtain ⟨k, t, hk, hk1, rfl, rfl, ht, HA⟩ := hrel
    by_cases hlt : k < n
    · by_cases hlt2 : k < 80
      · obtain ⟨ad, o, rfl, hB, ho, hS1, _, hc1⟩ := Hl.out.at_ hlt
        have HT2 : Hid (dat (l.take (k + 1)) = t + o.2.size) := by
          show _ = _
          rw [dat_take l k o ho, HA.out]
        clear ho
        go_wp2
        go_round
        case rel => exact ⟨k + 1, t + o.2.size, by omega, by omega, by go_num, by go_num, by omega, HT2⟩
        case measure => simp [intOf]; omega
      · have h70 : decide (70 < (n : Int)) = true := decide_eq_true (by omega)
        have hd1 : decide ((k : Int) < 80) = false := decide_eq_false (by omega)
        go_wp2
        go_ret
        exact longQ_true _ _ _
    · obtain rfl : k = n := by omega
      by_cases h70 : 70 < (k : Int)
      · go_wp2
        go_ret
        exact longQ_true _ _ _
      · have hd : decide (70 < (k : Int)) = false := decide_eq_false h70
        by_cases h8 : 4096 < (t : Int)
        · go_wp2
          go_ret
          exact longQ_true _ _ _
        · have hd8 : decide (4096 < (t : Int)) = false := decide_eq_false h8
          go_wp2
          go_ret
          refine ⟨false, rfl, fun _ => ⟨by omega, ?_⟩, rfl⟩
          have := HA.out
          rw [List.take_of_length_le (by rw [Hn.out]; exact Nat.le_refl _)] at this
          omega

end Go.Proofs.YtpohcejgblahiaaGreat.Opt
