/- Contracts of package fcs's Sum, Seal, Good, Open, and the law's own examples ('alive'). -/
import Derived.Test.YtfcmpnfdgfdclaaFcsE
namespace Go.Proofs.Ytfcmpnfdgfdclaa.Fcs
open Go.RowKit Go.Proofs.Ytfcmpnfdgfdclaa.Oct

theorem not_xor (n : Nat) (h : n < 65536) : bits .xor .u16 IntKind.u16.max (n : Int) = ((n ^^^ 65535 : Nat) : Int) := by
  rw [Nat.xor_comm]; exact u16_xor_nat 65535 n (by omega) h

set_option maxHeartbeats 400000 in
set_option maxRecDepth 100000 in
theorem sum_any (s : ByteArray) (w : World) (hs : s.size ≤ maxLen) :
    Calls Try.prog 45 #[.string s] w fun e w' => e = .returned (.int .u16 (sum s.toList)) ∧ Below w.heap.size w w' := by
  have Hs := Lib.hid hs; clear hs
  have HL := Lib.hid (more_lt 65535 s.toList (by omega))
  unfold sum
  generalize hq : more 65535 s.toList = q at *
  have Hq := Lib.hid hq; clear hq
  have h1 : (0 : Int) ≤ q := by omega
  have h2 : (q : Int) ≤ 65535 := by have := HL.out; omega
  go_enter Try.func45, Try.ntmps45
  go_wp2_with fail
  refine (more_any 65535 s _ (by omega) Hs.out).mono ?_
  rw [Hq.out]
  rintro e w1 ⟨rfl, hb1⟩
  go_wp2
  go_ret
  rw [not_xor q HL.out]
  exact ⟨rfl, hb1⟩

set_option maxHeartbeats 400000 in
set_option maxRecDepth 100000 in
theorem seal_any (s : ByteArray) (w : World) (hs : s.size ≤ 1048576) :
    Calls Try.prog 31 #[.string s] w fun e w' => e = .returned (.string (bOf (seal_ s.toList))) ∧ Below w.heap.size w w' := by
  have HV := Lib.hid (seal_bytes s)
  have HL := Lib.hid (sum_lt s.toList)
  generalize hq : sum s.toList = v at *
  have Hq := Lib.hid hq; clear hq
  have HN := Lib.hid (nums_two v HL.out)
  have h0 : (0 : Int) ≤ v := by omega
  have h1 : (v : Int) ≤ 65535 := by have := HL.out; omega
  have hz : (strOfNums [(v : Int) % 256, (v : Int) / 256]).size ≤ 2 := by rw [strOfNums_size]; exact Nat.le_refl _
  go_enter Try.func31, Try.ntmps31
  go_wp2_with fail
  refine (sum_any s _ (by unfold maxLen; omega)).mono ?_
  rw [Hq.out]
  rintro e w1 ⟨rfl, hb1⟩
  have hcv := conv_new (P := Try.prog) w1 46 9 5 80 (by kernel_rfl) (by kernel_rfl) (by kernel_rfl) [(v : Int) % 256, (v : Int) / 256] 2
  simp only [List.length_cons, List.length_nil, List.map_cons, List.map_nil] at hcv
  go_wp2
  go_ret
  rw [← HV.out, HN.out]
  exact ⟨rfl, hb1.alloc hb1.size _⟩

theorem good_more (s : ByteArray) (h : ¬ s.size < 2) : (((more 65535 s.toList : Nat) : Int) == 61624) = good s.toList := by
  unfold good
  rw [decide_eq_true (by rw [← size_toList]; omega), Bool.true_and]
  by_cases e : more 65535 s.toList = 61624
  · rw [e]; rfl
  · have : ¬ ((more 65535 s.toList : Nat) : Int) = 61624 := by omega
    rw [beq_eq_false_iff_ne.2 this, beq_eq_false_iff_ne.2 e]

set_option maxHeartbeats 400000 in
theorem good_any (s : ByteArray) (w : World) (hs : s.size ≤ 1048576) :
    Calls Try.prog 42 #[.string s] w fun e w' => e = .returned (.bool (good s.toList)) ∧ Below w.heap.size w w' := by
  by_cases h : s.size < 2
  · rw [good_short s h]
    go_enter Try.func42, Try.ntmps42
    go_wp2
    go_ret
    exact ⟨rfl, Below.refl _ _⟩
  · have HG := Lib.hid (good_more s h)
    have h2 : (2 : Int) ≤ s.size := by omega
    have Hs := Lib.hid hs
    go_enter Try.func42, Try.ntmps42
    go_wp2_with fail
    refine (more_any 65535 s _ (by omega) (by unfold maxLen; have := Hs.out; omega)).mono ?_
    rintro e w1 ⟨rfl, hb1⟩
    generalize hq : more 65535 s.toList = q at *
    clear hq
    go_wp2
    go_ret
    rw [← HG.out]
    exact ⟨rfl, hb1⟩

set_option maxHeartbeats 400000 in
theorem open_any (s : ByteArray) (w : World) (hs : s.size ≤ 1048576) :
    Calls Try.prog 27 #[.string s] w fun e w' => e = .returned (.tuple #[.string (openA s), .int .i64 (openE s)]) ∧ Below w.heap.size w w' := by
  by_cases h : s.size < 2
  · have HA : Hid (openA s = bOf [] ∧ openE s = 6) := by show _ ∧ _; simp [openA, openE, h]
    rw [HA.out.1, HA.out.2]
    go_enter Try.func27, Try.ntmps27
    go_wp2
    go_ret2
    exact ⟨rfl, Below.refl _ _⟩
  · have h2 : (2 : Int) ≤ s.size := by omega
    have Hs := Lib.hid hs
    have HE := Lib.hid (extract_front s (s.size - 2))
    cases hg : good s.toList
    · have HA : Hid (openA s = bOf [] ∧ openE s = 7) := by show _ ∧ _; simp [openA, openE, h, hg]
      have Hg := Lib.hid hg; clear hg
      rw [HA.out.1, HA.out.2]
      go_enter Try.func27, Try.ntmps27
      go_wp2_with fail
      refine (good_any s _ Hs.out).mono ?_
      rw [Hg.out]
      rintro e w1 ⟨rfl, hb1⟩
      go_wp2
      go_ret2
      exact ⟨rfl, hb1⟩
    · have HA : Hid (openA s = bOf (s.toList.take (s.size - 2)) ∧ openE s = 0) := by show _ ∧ _; simp [openA, openE, h, hg]
      have Hg := Lib.hid hg; clear hg
      rw [HA.out.1, HA.out.2]
      go_enter Try.func27, Try.ntmps27
      go_wp2_with fail
      refine (good_any s _ Hs.out).mono ?_
      rw [Hg.out]
      rintro e w1 ⟨rfl, hb1⟩
      go_wp2
      go_ret2
      rw [HE.out]
      exact ⟨rfl, hb1⟩
end Go.Proofs.Ytfcmpnfdgfdclaa.Fcs
