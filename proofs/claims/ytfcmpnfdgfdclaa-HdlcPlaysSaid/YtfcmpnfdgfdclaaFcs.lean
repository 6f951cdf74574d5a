/- Contracts of the document's answers for checksums, and of package fcs's eightSteps. -/
import Derived.Test.YtfcmpnfdgfdclaaProg
import Derived.Test.YtfcmpnfdgfdclaaFcsPure
import Derived.WalkKit
import Derived.WalkSpells
import Derived.WalkLawsBesides
import Derived.RegionTactic
import Derived.ChangeAlike
import Derived.Deep.QuietTactic
import Derived.Deep.Quiet
import Derived.BigQuiet
import Derived.Lib.Hide
import Derived.Laws.BytesArg
namespace Go.Proofs.Ytfcmpnfdgfdclaa.Fcs
open Go.RowKit Go.Proofs.Ytfcmpnfdgfdclaa.Oct

theorem step_same (c : Nat) (b : Bool) (h : (c % 2 == 1) = b) : step c b = c / 2 := by
  unfold step; rw [h]; simp
theorem step_other (c : Nat) (b : Bool) (h : (c % 2 == 1) ≠ b) : step c b = c / 2 ^^^ 33800 := by
  unfold step; rw [if_pos (by simpa using h)]

set_option maxHeartbeats 400000 in
theorem rbit_any (c b : Nat) (w : World) (hc : c < 65536) (hb : b < 2) :
    Calls Try.prog 57 #[.int .u16 c, .int .u16 b] w fun e w' => e = .returned (.int .u16 (step c (b == 1))) ∧ w = w' := by
  have h1 : (0 : Int) ≤ c := by omega
  have h2 : (c : Int) < 65536 := by omega
  have h3 : (0 : Int) ≤ b := by omega
  have h4 : (b : Int) < 2 := by omega
  by_cases h : c % 2 = b
  · have hv : step c (b == 1) = c / 2 := step_same c _ (by rw [h])
    have H := Lib.hid hv; clear hv
    have ht : ((c : Int) % 2 != b) = false := by simp; omega
    clear h
    rw [H.out]
    go_enter Try.func57, Try.ntmps57
    go_wp2
    go_ret
    exact ⟨by simp, rfl⟩
  · have hv : step c (b == 1) = c / 2 ^^^ 33800 := step_other c _ (by
      rcases Nat.mod_two_eq_zero_or_one c with e | e <;> rcases Nat.mod_two_eq_zero_or_one b with e2 | e2 <;> simp [e] <;> omega)
    have H := Lib.hid hv; clear hv
    have ht : ((c : Int) % 2 != b) = true := by simp; omega
    have HX := Lib.hid (u16_xor_nat (c / 2) 33800 (by omega) (by omega))
    clear h
    rw [H.out]
    go_enter Try.func57, Try.ntmps57
    go_wp2
    go_ret
    refine ⟨?_, rfl⟩
    have := HX.out
    simp at this ⊢
    exact this

theorem div_bits (b k : Nat) : bitsN (k + 1) b = bitsN k b ++ [b / 2 ^ k % 2 == 1] := by
  rw [bitsN_add]; rfl

set_option maxHeartbeats 1000000 in
set_option maxRecDepth 100000 in
theorem rmore_any (c : Nat) (s : ByteArray) (w : World) (hc : c < 65536) (hs : s.size ≤ maxLen) :
    Calls Try.prog 54 #[.int .u16 c, .string s] w fun e w' => e = .returned (.int .u16 (more c s.toList)) ∧ w = w' := by
  unfold maxLen at hs
  have Hc := Lib.hid hc; clear hc
  go_enter Try.func54, Try.ntmps54
  go_wp2
  go_loop [0, 5] (fun r i => ∃ k : Nat, k ≤ s.size ∧ i = .int .i64 k ∧ r = .int .u16 (more c (s.toList.take k))) (fun _ i => s.size - (intOf i).toNat)
  case atStart => exact ⟨0, Nat.zero_le _, rfl, rfl⟩
  case round =>
    obtain ⟨k, hk, rfl, rfl⟩ := hrel
    by_cases hlt : k < s.size
    · have HS : Hid (more c (s.toList.take (k + 1)) = run (more c (s.toList.take k)) (bitsN 8 s[k].toNat)) := by
        show _ = _
        rw [getElem_toList, ← more_snoc, ← List.take_succ_eq_append_getElem]
      have HL := Lib.hid (more_lt c (s.toList.take k) Hc.out)
      generalize more c (s.toList.take k) = q at *
      have hb := s[k].toNat_lt
      go_wp2
      generalize s[k].toNat = b at *
      go_loop [0, 6, 7] (fun r u j => ∃ n : Nat, n ≤ 8 ∧ j = .int .i64 n ∧ r = .int .u16 (run q (bitsN n b)) ∧ u = .int .u8 ((b / 2 ^ n : Nat) : Int)) (fun _ _ j => 8 - (intOf j).toNat)
      case atStart => exact ⟨0, Nat.zero_le _, rfl, rfl, by simp⟩
      case round =>
        obtain ⟨n, hn, rfl, rfl, rfl⟩ := hrel
        by_cases hlt8 : n < 8
        · have HR : Hid (run q (bitsN (n + 1) b) = step (run q (bitsN n b)) (b / 2 ^ n % 2 == 1)) := by
            show _ = _
            rw [div_bits, run_append]; rfl
          have HQ : Hid (b / 2 ^ (n + 1) = b / 2 ^ n / 2) := by show _ = _; rw [Nat.pow_succ, Nat.div_div_eq_div_mul]
          have Hr := Lib.hid (run_lt (bitsN n b) q HL.out)
          have hu : b / 2 ^ n < 256 := Nat.lt_of_le_of_lt (Nat.div_le_self _ _) hb
          generalize run q (bitsN n b) = r at *
          generalize b / 2 ^ n = u at *
          have hu1 : (0 : Int) ≤ u := by omega
          have hu2 : (u : Int) < 256 := by omega
          go_wp2_with fail
          rw [show ((u : Int) % 2) = ((u % 2 : Nat) : Int) from by omega]
          refine (rbit_any r (u % 2) _ Hr.out (by omega)).mono ?_
          rintro e w' ⟨rfl, rfl⟩
          go_wp2
          go_round
          case rel => exact ⟨n + 1, by omega, by go_num, by rw [HR.out], by rw [HQ.out]; go_num⟩
          case measure => simp [intOf]; omega
        · obtain rfl : n = 8 := by omega
          go_wp2
          go_round
          case rel => exact ⟨k + 1, by omega, by go_num, by rw [HS.out]⟩
          case measure => simp [intOf]; omega
    · go_wp2
      go_ret
      have e : s.toList.take k = s.toList := List.take_of_length_le (by rw [← size_toList]; omega)
      rw [e]
      exact ⟨rfl, rfl⟩

theorem sum_xor (n : Nat) (h : n < 65536) : bits .xor .u16 (n : Int) 65535 = ((n ^^^ 65535 : Nat) : Int) := u16_xor_nat n 65535 h (by omega)

set_option maxHeartbeats 400000 in
theorem rsum_any (s : ByteArray) (w : World) (hs : s.size ≤ maxLen) :
    Calls Try.prog 47 #[.string s] w fun e w' => e = .returned (.int .u16 (sum s.toList)) ∧ w = w' := by
  have Hs := Lib.hid hs; clear hs
  have HX := Lib.hid (sum_xor (more 65535 s.toList) (more_lt _ _ (by omega)))
  have HL := Lib.hid (more_lt 65535 s.toList (by omega))
  unfold sum
  generalize hq : more 65535 s.toList = q at *
  have Hq := Lib.hid hq; clear hq
  go_enter Try.func47, Try.ntmps47
  go_wp2_with fail
  refine (rmore_any 65535 s _ (by omega) Hs.out).mono ?_
  rw [Hq.out]
  rintro e w' ⟨rfl, rfl⟩
  go_wp2
  go_ret
  rw [HX.out]
  exact ⟨rfl, rfl⟩

theorem conv_new {P : Program} (w : World) (src dst e t : TypeId) (hs : P.underlying src = some (.slice e)) (he : P.underlying e = some (.int .u8)) (hd : P.underlying dst = some .string) (xs : List Int) (c : Nat) :
    (convert src dst (.slice (some ⟨w.heap.size, 0, none⟩) xs.length c)).run P (w.alloc (.cells (xs.map (Value.int .u8)).toArray t)) = .ok (.string (strOfNums xs)) (w.alloc (.cells (xs.map (Value.int .u8)).toArray t)) := by
  refine run_convert_bytes_arg _ src e hs he w.heap.size 0 xs.length c xs rfl (fun i hi => ?_) dst hd
  rw [Nat.zero_add, World.cell?_alloc_new]
  simp [List.getElem?_eq_getElem hi]

theorem nums_two (v : Nat) (h : v < 65536) : strOfNums [(v : Int) % 256, (v : Int) / 256] = bOf [UInt8.ofNat (v % 256), UInt8.ofNat (v / 256)] := by
  rw [nums_bOf]
  congr 1
theorem seal_bytes (s : ByteArray) : s ++ bOf [UInt8.ofNat (sum s.toList % 256), UInt8.ofNat (sum s.toList / 256)] = bOf (seal_ s.toList) := by
  rw [append_bOf, toList_bOf]; rfl

set_option maxHeartbeats 400000 in
theorem rseal_any (s : ByteArray) (w : World) (hs : s.size ≤ 1048576) :
    Calls Try.prog 33 #[.string s] w fun e w' => e = .returned (.string (bOf (seal_ s.toList))) ∧ Below w.heap.size w w' := by
  have HV := Lib.hid (seal_bytes s)
  have HL := Lib.hid (sum_lt s.toList)
  generalize hq : sum s.toList = v at *
  have Hq := Lib.hid hq; clear hq
  have HN := Lib.hid (nums_two v HL.out)
  have h0 : (0 : Int) ≤ v := by omega
  have h1 : (v : Int) < 65536 := by have := HL.out; omega
  have hz : (strOfNums [(v : Int) % 256, (v : Int) / 256]).size ≤ 2 := by rw [strOfNums_size]; exact Nat.le_refl _
  have hcv := conv_new (P := Try.prog) w 46 9 5 5 (by kernel_rfl) (by kernel_rfl) (by kernel_rfl) [(v : Int) % 256, (v : Int) / 256] 2
  simp only [List.length_cons, List.length_nil, List.map_cons, List.map_nil] at hcv
  go_enter Try.func33, Try.ntmps33
  go_wp2_with fail
  refine (rsum_any s _ (by unfold maxLen; omega)).mono ?_
  rw [Hq.out]
  rintro e w' ⟨rfl, rfl⟩
  go_wp2
  go_ret
  rw [← HV.out, HN.out]
  exact ⟨rfl, (Below.refl _ _).alloc (Nat.le_refl _) _⟩
end Go.Proofs.Ytfcmpnfdgfdclaa.Fcs
