/- Contracts of the document's Good and Open, and of package fcs's eightSteps. -/
import Derived.Test.YtfcmpnfdgfdclaaFcs
namespace Go.Proofs.Ytfcmpnfdgfdclaa.Fcs
open Go.RowKit Go.Proofs.Ytfcmpnfdgfdclaa.Oct

theorem good_short (s : ByteArray) (h : s.size < 2) : good s.toList = false := by
  unfold good; rw [decide_eq_false (by rw [← size_toList]; omega)]; rfl
theorem good_by_seal (s : ByteArray) (h : ¬ s.size < 2) : ((bOf (seal_ (s.toList.take (s.size - 2)))).toList == s.toList) = good s.toList := by
  rw [good_iff, toList_bOf, ← size_toList]
  by_cases e : seal_ (s.toList.take (s.size - 2)) = s.toList
  · rw [e]; simp; omega
  · simp [e]

set_option maxHeartbeats 400000 in
theorem rgood_any (s : ByteArray) (w : World) (hs : s.size ≤ 1048576) :
    Calls Try.prog 49 #[.string s] w fun e w' => e = .returned (.bool (good s.toList)) ∧ Below w.heap.size w w' := by
  by_cases h : s.size < 2
  · rw [good_short s h]
    go_enter Try.func49, Try.ntmps49
    go_wp2
    go_ret
    exact ⟨rfl, Below.refl _ _⟩
  · have HG := Lib.hid (good_by_seal s h)
    have h2 : (2 : Int) ≤ s.size := by omega
    have HE := Lib.hid (extract_front s (s.size - 2))
    have Hs := Lib.hid hs
    go_enter Try.func49, Try.ntmps49
    go_wp2_with fail
    rw [HE.out]
    refine (rseal_any (bOf (s.toList.take (s.size - 2))) _ (by rw [size_bOf, List.length_take, ← size_toList]; have := Hs.out; omega)).mono ?_
    rw [toList_bOf]
    rintro e w1 ⟨rfl, hb1⟩
    go_wp2
    go_ret
    rw [← HG.out]
    exact ⟨rfl, hb1⟩

/-- What Open answers. -/
def openA (s : ByteArray) : ByteArray := if s.size < 2 then bOf [] else if good s.toList then bOf (s.toList.take (s.size - 2)) else bOf []
def openE (s : ByteArray) : Int := if s.size < 2 then 6 else if good s.toList then 0 else 7

theorem and_one (r : Nat) (h : r < 65536) : bits .and .u16 (r : Int) 1 = ((r % 2 : Nat) : Int) := by
  have := u16_and_nat r 1 h (by omega)
  rw [Nat.and_one_is_mod] at this
  exact this
theorem rep_snoc (n : Nat) : List.replicate (n + 1) false = List.replicate n false ++ [false] := List.replicate_succ'

set_option maxHeartbeats 400000 in
set_option maxRecDepth 100000 in
theorem eight_any (c : Nat) (w : World) (hc : c < 65536) :
    Calls Try.prog 58 #[.int .u16 c] w fun e w' => e = .returned (.int .u16 (tab c)) ∧ w = w' := by
  have Hc := Lib.hid hc; clear hc
  unfold tab
  go_enter Try.func58, Try.ntmps58
  go_wp2
  go_loop [0, 4] (fun r i => ∃ n : Nat, n ≤ 8 ∧ i = .int .i64 n ∧ r = .int .u16 (run c (List.replicate n false))) (fun _ i => 8 - (intOf i).toNat)
  case atStart => exact ⟨0, Nat.zero_le _, rfl, rfl⟩
  case round =>
    obtain ⟨n, hn, rfl, rfl⟩ := hrel
    by_cases hlt : n < 8
    · have HR : Hid (run c (List.replicate (n + 1) false) = step (run c (List.replicate n false)) false) := by
        show _ = _
        rw [rep_snoc, run_append]; rfl
      have hr := run_lt (List.replicate n false) c Hc.out
      generalize run c (List.replicate n false) = r at *
      have HA := Lib.hid (and_one r hr)
      have HX := Lib.hid (u16_xor_nat (r / 2) 33800 (by omega) (by omega))
      have h1 : (0 : Int) ≤ r := by omega
      have h2 : (r : Int) ≤ 65535 := by omega
      by_cases ho : r % 2 = 1
      · have HS := Lib.hid (step_other r false (by simp [ho]))
        have hand : bits .and .u16 (r : Int) 1 = 1 := by rw [HA.out, ho]; rfl
        clear ho hr
        go_wp2
        go_round
        case rel => exact ⟨n + 1, by omega, by go_num, by rw [HR.out, HS.out, ← HX.out]; rfl⟩
        case measure => simp [intOf]; omega
      · have ho' : r % 2 = 0 := by omega
        have HS := Lib.hid (step_same r false (by simp [ho']))
        have hand : bits .and .u16 (r : Int) 1 = 0 := by rw [HA.out, ho']; rfl
        clear ho ho' hr
        go_wp2
        go_round
        case rel => exact ⟨n + 1, by omega, by go_num, by rw [HR.out, HS.out]; rfl⟩
        case measure => simp [intOf]; omega
    · obtain rfl : n = 8 := by omega
      go_wp2
      go_ret
      exact ⟨rfl, rfl⟩
end Go.Proofs.Ytfcmpnfdgfdclaa.Fcs
