/- Contracts of package escape's Mapped, hides, and of the document's answers Mapped and turned. -/
import Derived.Test.YtfcmpnfdgfdclaaProg
import Derived.Test.YtfcmpnfdgfdclaaEscPure
import Derived.WalkKit
import Derived.WalkSpells
import Derived.WalkLawsBesides
import Derived.RegionTactic
import Derived.ChangeAlike
import Derived.Deep.QuietTactic
import Derived.Deep.Quiet
import Derived.BigQuiet
import Derived.Lib.Hide
import Derived.Laws.BytesArg
import Derived.RangeFuncBox
namespace Go.Proofs.Ytfcmpnfdgfdclaa.Esc
open Go.RowKit Go.Proofs.Ytfcmpnfdgfdclaa.Oct

theorem shr_one (a k : Nat) (ha : a < 4294967296) : (bits .and .u32 ((a : Int) / 2 ^ k) 1 == 1) = (a / 2 ^ k % 2 == 1) := by
  rw [show ((2 : Int) ^ k) = ((2 ^ k : Nat) : Int) from by simp, ← Int.natCast_ediv]
  have hq : a / 2 ^ k < 4294967296 := Nat.lt_of_le_of_lt (Nat.div_le_self _ _) ha
  generalize a / 2 ^ k = q at *
  rw [show (1 : Int) = ((1 : Nat) : Int) from rfl, u32_and_nat q 1 hq (by omega), Nat.and_one_is_mod]
  by_cases e : q % 2 = 1
  · rw [e]; rfl
  · have : ¬ ((q % 2 : Nat) : Int) = ((1 : Nat) : Int) := by omega
    rw [beq_eq_false_iff_ne.2 e, beq_eq_false_iff_ne.2 this]

set_option maxHeartbeats 400000 in
set_option maxRecDepth 100000 in
theorem mapped_any (a : Nat) (b : UInt8) (w : World) (ha : a < 4294967296) :
    Calls Try.prog 22 #[.int .u32 a, .int .u8 (b.toNat : Int)] w fun e w' => e = .returned (.bool (mapped a b)) ∧ w = w' := by
  have h1 : (0 : Int) ≤ a := by omega
  have h2 : (a : Int) ≤ 4294967295 := by omega
  have hb := b.toNat_lt
  by_cases h : b.toNat < 32
  · have HM := Lib.hid (mapped_div a b h)
    have HS := Lib.hid (shr_one a b.toNat ha)
    clear hb
    generalize b.toNat = k at *
    have hk1 : (0 : Int) ≤ k := by omega
    have hk2 : (k : Int) < 32 := by omega
    go_enter Try.func22, Try.ntmps22
    go_wp2
    go_ret
    rw [HM.out, ← HS.out]
    exact ⟨rfl, rfl⟩
  · have HM : Hid (mapped a b = false) := mapped_high (by omega)
    have hk2 : ¬ (b.toNat : Int) < 32 := by omega
    go_enter Try.func22, Try.ntmps22
    go_wp2
    go_ret
    rw [HM.out]
    exact ⟨rfl, rfl⟩

theorem eq_int (b : UInt8) (n : Nat) (hn : n < 256) : ((b.toNat : Int) == (n : Int)) = (b == UInt8.ofNat n) := by
  by_cases h : b.toNat = n
  · rw [(eq_num b n hn).2 h, UInt8.toNat_ofNat']
    have : n % 2 ^ 8 = n := by omega
    rw [this]; simp
  · have h1 : ¬ b = UInt8.ofNat n := fun e => h ((eq_num b n hn).1 e)
    have h2 : ¬ (b.toNat : Int) = (n : Int) := by omega
    rw [beq_eq_false_iff_ne.2 h1, beq_eq_false_iff_ne.2 h2]

set_option maxHeartbeats 400000 in
set_option maxRecDepth 100000 in
theorem tells_any (a : Nat) (b : UInt8) (g : Nat) (w : World) (ha : a < 4294967296) (hg : Boxed w g 22 (.int .u32 a)) :
    Calls Try.prog 53 #[.int .u8 (b.toNat : Int), .pointer (some ⟨g, 0, none⟩)] w fun e w' => e = .returned (.bool (hidden a b)) ∧ w = w' := by
  have hc := hg.cell
  clear hg
  have Ha := Lib.hid ha; clear ha
  by_cases h1 : b = 125
  · have HH : Hid (hidden a b = true) := by show _ = _; rw [h1]; rfl
    rw [HH.out]
    subst h1
    go_enter Try.func53, Try.ntmps53
    go_wp2
    go_ret
    exact ⟨rfl, rfl⟩
  · by_cases h2 : b = 126
    · have HH : Hid (hidden a b = true) := by show _ = _; rw [h2]; rfl
      rw [HH.out]
      subst h2
      go_enter Try.func53, Try.ntmps53
      go_wp2
      go_ret
      exact ⟨rfl, rfl⟩
    · have HH : Hid (hidden a b = mapped a b) := by
        show _ = _
        unfold hidden
        rw [beq_eq_false_iff_ne.2 h1, beq_eq_false_iff_ne.2 h2]; rfl
      rw [HH.out]
      have h3 : ((b.toNat : Int) == 125) = false := by
        have := eq_int b 125 (by omega)
        rw [show UInt8.ofNat 125 = 125 from rfl, beq_eq_false_iff_ne.2 h1] at this
        exact this
      have h4 : ((b.toNat : Int) == 126) = false := by
        have := eq_int b 126 (by omega)
        rw [show UInt8.ofNat 126 = 126 from rfl, beq_eq_false_iff_ne.2 h2] at this
        exact this
      clear h1 h2
      go_enter Try.func53, Try.ntmps53
      go_wp2_with fail
      refine (mapped_any a b _ Ha.out).mono ?_
      rintro e w' ⟨rfl, rfl⟩
      go_wp2
      go_ret
      exact ⟨rfl, rfl⟩

set_option maxHeartbeats 400000 in
theorem hides_any (a : Nat) (w : World) :
    Calls Try.prog 43 #[.int .u32 a] w fun e w' => e = .returned (.func (.func 53) #[] #[.pointer (some ⟨w.heap.size, 0, none⟩)]) ∧ w' = w.alloc (.cells #[.int .u32 a] 22) := by
  go_enter Try.func43, Try.ntmps43
  go_wp2
  go_ret
  exact ⟨rfl, rfl⟩

theorem rem_one (q : Nat) : ((q : Int) % 2 == 1) = (q % 2 == 1) := by
  by_cases e : q % 2 = 1
  · have : (q : Int) % 2 = 1 := by omega
    rw [e, this]; rfl
  · have : ¬ (q : Int) % 2 = 1 := by omega
    rw [beq_eq_false_iff_ne.2 e, beq_eq_false_iff_ne.2 this]

set_option maxHeartbeats 400000 in
set_option maxRecDepth 100000 in
theorem rmapped_any (a : Nat) (b : UInt8) (w : World) (ha : a < 4294967296) :
    Calls Try.prog 35 #[.int .u32 a, .int .u8 (b.toNat : Int)] w fun e w' => e = .returned (.bool (mapped a b)) ∧ w = w' := by
  have hb := b.toNat_lt
  have HM : Hid (b.toNat < 32 → mapped a b = (a / 2 ^ b.toNat % 2 == 1)) := mapped_div a b
  have HH : Hid (¬ b.toNat < 32 → mapped a b = false) := fun h => mapped_high (by omega)
  have Ha := Lib.hid ha
  clear ha
  generalize mapped a b = r at *
  generalize b.toNat = k at *
  have hk1 : (0 : Int) ≤ k := by omega
  have hk2 : (k : Int) < 256 := by omega
  go_enter Try.func35, Try.ntmps35
  go_wp2
  go_loop [0, 5] (fun u i => ∃ n : Nat, n ≤ k ∧ i = .int .i64 n ∧ u = .int .u32 ((a / 2 ^ n : Nat) : Int)) (fun _ i => k - (intOf i).toNat)
  case atStart => exact ⟨0, Nat.zero_le _, rfl, by simp⟩
  case round =>
    obtain ⟨n, hn, rfl, rfl⟩ := hrel
    have hq : a / 2 ^ n < 4294967296 := Nat.lt_of_le_of_lt (Nat.div_le_self _ _) Ha.out
    have HQ : Hid (a / 2 ^ (n + 1) = a / 2 ^ n / 2) := by show _ = _; rw [Nat.pow_succ, Nat.div_div_eq_div_mul]
    by_cases hlt : n < k
    · generalize a / 2 ^ n = q at *
      have h1 : (0 : Int) ≤ q := by omega
      have h2 : (q : Int) ≤ 4294967295 := by omega
      go_wp2
      go_round
      case rel => exact ⟨n + 1, by omega, by go_num, by rw [HQ.out]; go_num⟩
      case measure => simp [intOf]; omega
    · obtain rfl : n = k := by omega
      clear HQ
      generalize a / 2 ^ n = q at *
      have h1 : (0 : Int) ≤ q := by omega
      have h2 : (q : Int) ≤ 4294967295 := by omega
      by_cases h32 : n < 32
      · have HR := Lib.hid (HM.out h32)
        have HO := Lib.hid (rem_one q)
        go_wp2
        go_ret
        rw [HR.out, ← HO.out]
        exact ⟨rfl, rfl⟩
      · have HR := Lib.hid (HH.out h32)
        go_wp2
        go_ret
        rw [HR.out]
        exact ⟨rfl, rfl⟩

set_option maxHeartbeats 400000 in
set_option maxRecDepth 100000 in
theorem turned_any (b : UInt8) (w : World) :
    Calls Try.prog 46 #[.int .u8 (b.toNat : Int)] w fun e w' => e = .returned (.int .u8 ((flip b).toNat : Int)) ∧ w = w' := by
  have hb := b.toNat_lt
  by_cases h : b.toNat / 32 % 2 = 1
  · obtain ⟨h1, h2⟩ := flip_down b h
    rw [h1]
    clear h1
    generalize b.toNat = k at *
    have hk1 : (0 : Int) ≤ k := by omega
    have hk2 : (k : Int) < 256 := by omega
    have ht : ((k : Int) / 32 % 2 == 1) = true := by simp; omega
    go_enter Try.func46, Try.ntmps46
    go_wp2
    go_ret
    refine ⟨?_, rfl⟩
    show Ending.returned (Value.int .u8 ((k : Int) - 32)) = _
    rw [show ((k : Int) - 32) = ((k - 32 : Nat) : Int) by omega]
  · obtain ⟨h1, h2⟩ := flip_up b h
    rw [h1]
    clear h1
    generalize b.toNat = k at *
    have hk1 : (0 : Int) ≤ k := by omega
    have hk2 : (k : Int) < 256 := by omega
    have ht : ((k : Int) / 32 % 2 == 1) = false := by simp; omega
    go_enter Try.func46, Try.ntmps46
    go_wp2
    go_ret
    exact ⟨rfl, rfl⟩
end Go.Proofs.Ytfcmpnfdgfdclaa.Esc
