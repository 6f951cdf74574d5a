/- Put together: Cut, Read8. -/
import Derived.Test.YtpfbknbloeilmaaDoorProg
import Derived.Test.YtpfbknbloeilmaaDoorPure
import Derived.WalkKit
import Derived.WalkSpells
import Derived.WalkLawsBesides
import Derived.RegionTactic
import Derived.ChangeAlike
import Derived.Deep.QuietTactic
import Derived.Deep.Quiet
import Derived.BigQuiet
import Derived.Lib.Hide
import Derived.Laws.BytesArg

/- Contract of package octet's Cut. -/
namespace Go.Proofs.YtpfbknbloeilmaaDoor.Oct
open Go.RowKit
set_option linter.unusedVariables false
/-- What Cut answers. -/
def cutE (s : ByteArray) (n : Int) : Int := if n < 0 then 2 else if (s.size : Int) < n then 6 else 0
def cutA (s : ByteArray) (n : Int) : ByteArray := if n < 0 then bOf [] else if (s.size : Int) < n then bOf [] else bOf (s.toList.take n.toNat)
def cutB (s : ByteArray) (n : Int) : ByteArray := if n < 0 then bOf [] else if (s.size : Int) < n then bOf [] else bOf (s.toList.drop n.toNat)
def cutV (s : ByteArray) (n : Int) : Value := .tuple #[.string (cutA s n), .string (cutB s n), .int .i64 (cutE s n)]
theorem cutV_neg (s : ByteArray) (n : Int) (h : n < 0) : cutV s n = .tuple #[.string (bOf []), .string (bOf []), .int .i64 2] := by simp [cutV, cutA, cutB, cutE, h]
theorem cutV_end (s : ByteArray) (n : Int) (h0 : ¬ n < 0) (h : (s.size : Int) < n) : cutV s n = .tuple #[.string (bOf []), .string (bOf []), .int .i64 6] := by simp [cutV, cutA, cutB, cutE, h0, h]
theorem cutV_ok (s : ByteArray) (n : Int) (h0 : ¬ n < 0) (h : ¬ (s.size : Int) < n) : cutV s n = .tuple #[.string (bOf (s.toList.take n.toNat)), .string (bOf (s.toList.drop n.toNat)), .int .i64 0] := by simp [cutV, cutA, cutB, cutE, h0, h]

set_option maxHeartbeats 400000 in
set_option maxRecDepth 100000 in
theorem cut_v (s : ByteArray) (n : Int) (w : World) (hs : s.size ≤ maxLen) :
    Calls Tryd.prog 54 #[.string s, .int .i64 n] w fun e w' => e = .returned (cutV s n) ∧ ∃ k, w' = w.drewN k := by
  unfold maxLen at hs
  by_cases h0 : n < 0
  · rw [cutV_neg s n h0]
    go_enter Tryd.func54, Tryd.ntmps54
    go_wp2
    go_ret3
    exact ⟨rfl, 0, rfl⟩
  · by_cases h1 : (s.size : Int) < n
    · rw [cutV_end s n h0 h1]
      go_enter Tryd.func54, Tryd.ntmps54
      go_wp2
      go_ret3
      exact ⟨rfl, 0, rfl⟩
    · rw [cutV_ok s n h0 h1]
      have H1 := Lib.hid (extract_front s n.toNat)
      have H2 := Lib.hid (extract_rest s n.toNat)
      go_enter Tryd.func54, Tryd.ntmps54
      go_wp2
      go_quiet (fail)
      go_wp2
      go_ret3
      refine ⟨?_, nq, rfl⟩
      rw [H1.out, H2.out]
      rfl

theorem cut_any (s : ByteArray) (n : Int) (w : World) (hs : s.size ≤ maxLen) :
    Calls Tryd.prog 54 #[.string s, .int .i64 n] w fun e w' => e = .returned (.tuple #[.string (cutA s n), .string (cutB s n), .int .i64 (cutE s n)]) ∧ ∃ k, w' = w.drewN k := cut_v s n w hs

end Go.Proofs.YtpfbknbloeilmaaDoor.Oct

/- Contracts of Read8, of both. -/
namespace Go.Proofs.YtpfbknbloeilmaaDoor.Oct
open Go.RowKit
set_option linter.unusedVariables false

/-- What Read8 answers. -/
def readE (s : ByteArray) : Int := match r8 s.toList with | none => 6 | some _ => 0
def readA (s : ByteArray) : ByteArray := match r8 s.toList with | none => bOf [] | some p => bOf p.1
def readB (s : ByteArray) : ByteArray := match r8 s.toList with | none => bOf [] | some p => bOf p.2
theorem read_nil : readA (bOf []) = bOf [] ∧ readB (bOf []) = bOf [] ∧ readE (bOf []) = 6 := by simp [readA, readB, readE, toList_bOf, r8]
theorem read_none (s : ByteArray) (h : r8 s.toList = none) : readA s = bOf [] ∧ readB s = bOf [] ∧ readE s = 6 := by simp [readA, readB, readE, h]
theorem read_some (s : ByteArray) (t r : List UInt8) (h : r8 s.toList = some (t, r)) : readA s = bOf t ∧ readB s = bOf r ∧ readE s = 0 := by simp [readA, readB, readE, h]
theorem ex_cons (s : ByteArray) (h : 0 < s.size) : ∃ c l, s = bOf (c :: l) := by
  rcases hl : s.toList with _ | ⟨c, l⟩
  · have := size_toList s
    rw [hl, List.length_nil] at this
    omega
  · exact ⟨c, l, by rw [← hl, bOf_toList]⟩
theorem read_cut (s : ByteArray) (h : 0 < s.size) : cutA (s.extract 1 s.size) (s[0].toNat : Int) = readA s ∧ cutB (s.extract 1 s.size) (s[0].toNat : Int) = readB s ∧ cutE (s.extract 1 s.size) (s[0].toNat : Int) = readE s := by
  obtain ⟨c, l, rfl⟩ := ex_cons s h
  have hc : (bOf (c :: l))[0] = c := rfl
  rw [extract_rest, toList_bOf, hc]
  unfold readA readB readE cutA cutB cutE
  simp only [List.drop_succ_cons, List.drop_zero]
  rw [toList_bOf, toList_bOf, size_bOf]
  simp only [r8]
  have h0 : ¬ ((c.toNat : Int) < 0) := by omega
  simp only [if_neg h0]
  by_cases h : l.length < c.toNat
  · simp [h]
  · simp [h]

theorem wrap64_u8 (b : UInt8) : wrap64 (b.toNat : Int) = (b.toNat : Int) := by
  have := b.toNat_lt
  simp only [wrap64]
  omega

set_option maxHeartbeats 400000 in
set_option maxRecDepth 100000 in
theorem read8_any (s : ByteArray) (w : World) (hs : s.size ≤ maxLen) :
    Calls Tryd.prog 30 #[.string s] w fun e w' => e = .returned (.tuple #[.string (readA s), .string (readB s), .int .i64 (readE s)]) ∧ ∃ k, w' = w.drewN k := by
  by_cases h0 : 0 < s.size
  · have H := Lib.hid (read_cut s h0)
    have hz : (s.extract 1 s.size).size ≤ maxLen := by rw [extract_rest, size_bOf, List.length_drop, ← size_toList]; omega
    have Hz := Lib.hid hz; clear hz
    have h1 : s.toList.isEmpty = false := by
      obtain ⟨c, l, rfl⟩ := ex_cons s h0
      rw [toList_bOf]; rfl
    have h2 : (1 : Int) ≤ s.size := by omega
    unfold maxLen at hs
    rw [← H.out.1, ← H.out.2.1, ← H.out.2.2]
    go_enter Tryd.func30, Tryd.ntmps30
    go_wp2
    go_quiet ((go_at_call 54; exact Calls.quiet_of (cut_any _ _ _ Hz.out)))
    go_wp2
    go_ret3
    refine ⟨?_, nq, rfl⟩
    simp only [wrap64_u8]
    rfl
  · obtain rfl : s = bOf [] := by
      have := size_toList s
      exact toList_inj (by rw [toList_bOf]; exact List.eq_nil_of_length_eq_zero (by omega))
    rw [read_nil.1, read_nil.2.1, read_nil.2.2]
    have h1 : (bOf []).toList = [] := toList_bOf []
    have h2 : (bOf []).toList.isEmpty = true := by rw [toList_bOf]; rfl
    go_enter Tryd.func30, Tryd.ntmps30
    go_wp2
    go_ret3
    exact ⟨rfl, 0, rfl⟩

end Go.Proofs.YtpfbknbloeilmaaDoor.Oct
