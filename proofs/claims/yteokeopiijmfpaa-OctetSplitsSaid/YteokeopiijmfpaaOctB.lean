/- Contracts of the document's answers for numbers, and of Cut and Read8 of both. -/
import Derived.Test.YteokeopiijmfpaaOct
namespace Go.Proofs.Yteokeopiijmfpaa.Oct
open Go.RowKit
set_option linter.unusedVariables false      -- a bound that only omega uses

set_option maxHeartbeats 400000 in
theorem rvalue_any (s : ByteArray) (w : World) (hs : s.size ≤ 4) :
    Calls Try.prog 27 #[.string s] w fun e w' => e = .returned (.int .u64 (val s.toList)) ∧ w = w' := by
  go_enter Try.func27, Try.ntmps27
  go_wp2
  go_loop [3, 4] (fun v i => ∃ k : Nat, k ≤ s.size ∧ i = .int .i64 k ∧ v = .int .u64 (val (s.toList.take k))) (fun _ i => s.size - (intOf i).toNat)
  case atStart => exact ⟨0, Nat.zero_le _, rfl, rfl⟩
  case round =>
    obtain ⟨k, hk, rfl, rfl⟩ := hrel
    by_cases hlt : k < s.size
    · have hb := val_take_le s.toList k (by omega)
      have hb1 : (val (s.toList.take k) : Int) ≤ 16777215 := by omega
      have hb2 : (0 : Int) ≤ (val (s.toList.take k) : Int) := by omega
      have HS := Lib.hid (val_take_succ s k hlt)
      clear hb
      generalize val (s.toList.take k) = q at *
      go_wp2
      go_round
      case rel => exact ⟨k + 1, by omega, by go_num, by rw [HS.out, wrap_val q _ hb1]⟩
      case measure => simp [intOf]; omega
    · go_wp2
      go_ret
      have e : s.toList.take k = s.toList := List.take_of_length_le (by rw [← size_toList]; omega)
      rw [e]
      exact ⟨rfl, rfl⟩

set_option maxHeartbeats 400000 in
theorem rget_v (s : ByteArray) (n : Nat) (w : World) (hs : s.size ≤ maxLen) (hn : n ≤ 4) :
    Calls Try.prog 9 #[.string s, .int .i64 n] w fun e w' => e = .returned (getV .u64 n s) ∧ w = w' := by
  unfold maxLen at hs
  rcases Nat.lt_trichotomy s.size n with h | h | h
  · have hv : getV .u64 n s = .tuple #[.int .u64 0, .int .i64 6] := by simp [getV, getN, getE, h]
    rw [hv]; clear hv
    go_enter Try.func9, Try.ntmps9
    go_wp2
    go_ret2
    exact ⟨rfl, rfl⟩
  · have hv : getV .u64 n s = .tuple #[.int .u64 (val s.toList), .int .i64 0] := by simp [getV, getN, getE, h]
    rw [hv]; clear hv
    have h1 : ¬ s.size < n := by omega
    have h2 : ¬ n < s.size := by omega
    clear h
    go_enter Try.func9, Try.ntmps9
    go_wp2_with (go_at_call 27; refine (rvalue_any s _ (by omega)).mono ?_; rintro e w' ⟨rfl, rfl⟩)
    go_ret2
    exact ⟨rfl, rfl⟩
  · have hv : getV .u64 n s = .tuple #[.int .u64 0, .int .i64 7] := by
      unfold getV getN getE; rw [if_neg (by omega), if_pos h, if_neg (by omega), if_pos h]; rfl
    rw [hv]; clear hv
    go_enter Try.func9, Try.ntmps9
    go_wp2
    go_ret2
    exact ⟨rfl, rfl⟩

theorem rget_any (s : ByteArray) (n : Nat) (w : World) (hs : s.size ≤ maxLen) (hn : n ≤ 4) :
    Calls Try.prog 9 #[.string s, .int .i64 n] w fun e w' => e = .returned (.tuple #[.int .u64 (getN n s), .int .i64 (getE n s)]) ∧ w = w' := rget_v s n w hs hn

set_option maxHeartbeats 400000 in
theorem rnum_any (v n : Nat) (w : World) (hv : v < 18446744073709551616) (hn : n ≤ 8) :
    Calls Try.prog 12 #[.int .u64 v, .int .i64 n] w fun e w' => e = .returned (.string (bOf (numS v n))) ∧ Below w.heap.size w w' := by
  have Hv := Lib.hid hv; clear hv
  go_enter Try.func12, Try.ntmps12
  go_wp2
  go_loopw [0, 5, 6] (fun u s i w' => ∃ k : Nat, k ≤ n ∧ i = .int .i64 k ∧ u = .int .u64 ((v / 256 ^ k : Nat) : Int) ∧ s = .string (bOf (numS v k)) ∧ Below w.heap.size w w') (fun _ _ i _ => n - (intOf i).toNat)
  case atStart => exact ⟨0, Nat.zero_le _, rfl, by simp, rfl, Below.refl _ _⟩
  case round =>
    obtain ⟨k, hk, rfl, rfl, rfl, hb⟩ := hrel
    by_cases hlt : k < n
    · have Hq : Hid (v / 256 ^ k < 18446744073709551616) := Nat.lt_of_le_of_lt (Nat.div_le_self _ _) Hv.out
      have hz : (bOf (numS v k)).size ≤ 8 := by rw [size_bOf, numS_length]; omega
      have HS : Hid (numS v (k + 1) = UInt8.ofNat (v / 256 ^ k % 256) :: numS v k) := rfl
      have HQ : Hid (v / 256 ^ (k + 1) = v / 256 ^ k / 256) := by show _ = _; rw [Nat.pow_succ, Nat.div_div_eq_div_mul]
      generalize v / 256 ^ k = q at *
      have hq1 : (0 : Int) ≤ (q : Int) := Int.natCast_nonneg q
      have hz2 : (strOfNums [(q : Int) % 256]).size ≤ 1 := by rw [strOfNums_size]; exact Nat.le_refl _
      have hcv := conv_new (P := Try.prog) wr 56 9 5 5 (by kernel_rfl) (by kernel_rfl) (by kernel_rfl) [(q : Int) % 256] 1
      simp only [List.length_cons, List.length_nil, List.map_cons, List.map_nil] at hcv
      go_wp2
      go_roundw
      case rel => exact ⟨k + 1, by omega, by go_num, by rw [HQ.out, wrap_quo q Hq.out], by rw [HS.out, nums_cons], hb.alloc hb.size _⟩
      case measure => simp [intOf]; omega
    · obtain rfl : k = n := by omega
      go_wp2
      go_ret
      exact ⟨rfl, hb⟩
/-- What Cut answers. -/
def cutE (s : ByteArray) (n : Int) : Int := if n < 0 then 2 else if (s.size : Int) < n then 6 else 0
def cutA (s : ByteArray) (n : Int) : ByteArray := if n < 0 then bOf [] else if (s.size : Int) < n then bOf [] else bOf (s.toList.take n.toNat)
def cutB (s : ByteArray) (n : Int) : ByteArray := if n < 0 then bOf [] else if (s.size : Int) < n then bOf [] else bOf (s.toList.drop n.toNat)
def cutV (s : ByteArray) (n : Int) : Value := .tuple #[.string (cutA s n), .string (cutB s n), .int .i64 (cutE s n)]
theorem cutV_neg (s : ByteArray) (n : Int) (h : n < 0) : cutV s n = .tuple #[.string (bOf []), .string (bOf []), .int .i64 2] := by simp [cutV, cutA, cutB, cutE, h]
theorem cutV_end (s : ByteArray) (n : Int) (h0 : ¬ n < 0) (h : (s.size : Int) < n) : cutV s n = .tuple #[.string (bOf []), .string (bOf []), .int .i64 6] := by simp [cutV, cutA, cutB, cutE, h0, h]
theorem cutV_ok (s : ByteArray) (n : Int) (h0 : ¬ n < 0) (h : ¬ (s.size : Int) < n) : cutV s n = .tuple #[.string (bOf (s.toList.take n.toNat)), .string (bOf (s.toList.drop n.toNat)), .int .i64 0] := by simp [cutV, cutA, cutB, cutE, h0, h]

set_option maxHeartbeats 400000 in
theorem cut_v (s : ByteArray) (n : Int) (w : World) (hs : s.size ≤ maxLen) :
    Calls Try.prog 14 #[.string s, .int .i64 n] w fun e w' => e = .returned (cutV s n) ∧ ∃ k, w' = w.drewN k := by
  unfold maxLen at hs
  by_cases h0 : n < 0
  · rw [cutV_neg s n h0]
    go_enter Try.func14, Try.ntmps14
    go_wp2
    go_ret3
    exact ⟨rfl, 0, rfl⟩
  · by_cases h1 : (s.size : Int) < n
    · rw [cutV_end s n h0 h1]
      go_enter Try.func14, Try.ntmps14
      go_wp2
      go_ret3
      exact ⟨rfl, 0, rfl⟩
    · rw [cutV_ok s n h0 h1]
      have H1 := Lib.hid (extract_front s n.toNat)
      have H2 := Lib.hid (extract_rest s n.toNat)
      go_enter Try.func14, Try.ntmps14
      go_wp2
      go_quiet (fail)
      go_wp2
      go_ret3
      refine ⟨?_, nq, rfl⟩
      rw [H1.out, H2.out]
      rfl

theorem cut_any (s : ByteArray) (n : Int) (w : World) (hs : s.size ≤ maxLen) :
    Calls Try.prog 14 #[.string s, .int .i64 n] w fun e w' => e = .returned (.tuple #[.string (cutA s n), .string (cutB s n), .int .i64 (cutE s n)]) ∧ ∃ k, w' = w.drewN k := cut_v s n w hs

set_option maxHeartbeats 400000 in
theorem rcut_v (s : ByteArray) (n : Int) (w : World) (hs : s.size ≤ maxLen) :
    Calls Try.prog 15 #[.string s, .int .i64 n] w fun e w' => e = .returned (cutV s n) ∧ ∃ k, w' = w.drewN k := by
  unfold maxLen at hs
  by_cases h0 : n < 0
  · rw [cutV_neg s n h0]
    go_enter Try.func15, Try.ntmps15
    go_wp2
    go_ret3
    exact ⟨rfl, 0, rfl⟩
  · by_cases h1 : (s.size : Int) < n
    · rw [cutV_end s n h0 h1]
      go_enter Try.func15, Try.ntmps15
      go_wp2
      go_ret3
      exact ⟨rfl, 0, rfl⟩
    · rw [cutV_ok s n h0 h1]
      have H1 := Lib.hid (extract_front s n.toNat)
      have H2 := Lib.hid (extract_rest s n.toNat)
      go_enter Try.func15, Try.ntmps15
      go_wp2
      go_quiet (fail)
      go_wp2
      go_ret3
      refine ⟨?_, nq, rfl⟩
      rw [H1.out, H2.out]
      rfl

theorem rcut_any (s : ByteArray) (n : Int) (w : World) (hs : s.size ≤ maxLen) :
    Calls Try.prog 15 #[.string s, .int .i64 n] w fun e w' => e = .returned (.tuple #[.string (cutA s n), .string (cutB s n), .int .i64 (cutE s n)]) ∧ ∃ k, w' = w.drewN k := rcut_v s n w hs

/-- What Read8 answers. -/
def readE (s : ByteArray) : Int := match r8 s.toList with | none => 6 | some _ => 0
def readA (s : ByteArray) : ByteArray := match r8 s.toList with | none => bOf [] | some p => bOf p.1
def readB (s : ByteArray) : ByteArray := match r8 s.toList with | none => bOf [] | some p => bOf p.2
theorem read_nil : readA (bOf []) = bOf [] ∧ readB (bOf []) = bOf [] ∧ readE (bOf []) = 6 := by simp [readA, readB, readE, toList_bOf, r8]
theorem read_none (s : ByteArray) (h : r8 s.toList = none) : readA s = bOf [] ∧ readB s = bOf [] ∧ readE s = 6 := by simp [readA, readB, readE, h]
theorem read_some (s : ByteArray) (t r : List UInt8) (h : r8 s.toList = some (t, r)) : readA s = bOf t ∧ readB s = bOf r ∧ readE s = 0 := by simp [readA, readB, readE, h]
theorem ex_cons (s : ByteArray) (h : 0 < s.size) : ∃ c l, s = bOf (c :: l) := by
  rcases hl : s.toList with _ | ⟨c, l⟩
  · have := size_toList s
    rw [hl, List.length_nil] at this
    omega
  · exact ⟨c, l, by rw [← hl, bOf_toList]⟩
theorem read_cut (s : ByteArray) (h : 0 < s.size) : cutA (s.extract 1 s.size) (s[0].toNat : Int) = readA s ∧ cutB (s.extract 1 s.size) (s[0].toNat : Int) = readB s ∧ cutE (s.extract 1 s.size) (s[0].toNat : Int) = readE s := by
  obtain ⟨c, l, rfl⟩ := ex_cons s h
  have hc : (bOf (c :: l))[0] = c := rfl
  rw [extract_rest, toList_bOf, hc]
  unfold readA readB readE cutA cutB cutE
  simp only [List.drop_succ_cons, List.drop_zero]
  rw [toList_bOf, toList_bOf, size_bOf]
  simp only [r8]
  have h0 : ¬ ((c.toNat : Int) < 0) := by omega
  simp only [if_neg h0]
  by_cases h : l.length < c.toNat
  · simp [h]
  · simp [h]
end Go.Proofs.Yteokeopiijmfpaa.Oct
