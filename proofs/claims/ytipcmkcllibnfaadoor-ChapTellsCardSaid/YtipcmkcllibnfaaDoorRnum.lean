/- Contract of the document's Num. -/
import Derived.Test.YtipcmkcllibnfaaDoorConvNew
namespace Go.Proofs.YtipcmkcllibnfaaDoor.Oct
open Go.RowKit
set_option linter.unusedVariables false
set_option maxRecDepth 100000 in
set_option maxHeartbeats 400000 in
theorem rnum_any (v n : Nat) (w : World) (hv : v < 18446744073709551616) (hn : n ≤ 8) :
    Calls Tryd.prog 34 #[.int .u64 v, .int .i64 n] w fun e w' => e = .returned (.string (bOf (numS v n))) ∧ Below w.heap.size w w' := by
  have Hv := Lib.hid hv; clear hv
  go_enter Tryd.func34, Tryd.ntmps34
  go_wp2
  go_loopw [0, 5, 6] (fun u s i w' => ∃ k : Nat, k ≤ n ∧ i = .int .i64 k ∧ u = .int .u64 ((v / 256 ^ k : Nat) : Int) ∧ s = .string (bOf (numS v k)) ∧ Below w.heap.size w w') (fun _ _ i _ => n - (intOf i).toNat)
  case atStart => exact ⟨0, Nat.zero_le _, rfl, by simp, rfl, Below.refl _ _⟩
  case round =>
    obtain ⟨k, hk, rfl, rfl, rfl, hb⟩ := hrel
    by_cases hlt : k < n
    · have Hq : Hid (v / 256 ^ k < 18446744073709551616) := Nat.lt_of_le_of_lt (Nat.div_le_self _ _) Hv.out
      have hz : (bOf (numS v k)).size ≤ 8 := by rw [size_bOf, numS_length]; omega
      have HS : Hid (numS v (k + 1) = UInt8.ofNat (v / 256 ^ k % 256) :: numS v k) := rfl
      have HQ : Hid (v / 256 ^ (k + 1) = v / 256 ^ k / 256) := by show _ = _; rw [Nat.pow_succ, Nat.div_div_eq_div_mul]
      generalize v / 256 ^ k = q at *
      have hq1 : (0 : Int) ≤ (q : Int) := Int.natCast_nonneg q
      have hz2 : (strOfNums [(q : Int) % 256]).size ≤ 1 := by rw [strOfNums_size]; exact Nat.le_refl _
      have hcv := conv_new (P := Tryd.prog) wr 39 9 5 5 (by kernel_rfl) (by kernel_rfl) (by kernel_rfl) [(q : Int) % 256] 1
      simp only [List.length_cons, List.length_nil, List.map_cons, List.map_nil] at hcv
      go_wp2
      go_roundw
      case rel => exact ⟨k + 1, by omega, by go_num, by rw [HQ.out, wrap_quo q Hq.out], by rw [HS.out, nums_cons], hb.alloc hb.size _⟩
      case measure => simp [intOf]; omega
    · obtain rfl : k = n := by omega
      go_wp2
      go_ret
      exact ⟨rfl, hb⟩
end Go.Proofs.YtipcmkcllibnfaaDoor.Oct
