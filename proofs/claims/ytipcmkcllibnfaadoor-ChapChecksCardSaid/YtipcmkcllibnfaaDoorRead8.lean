/- Contracts of Read8, of both. -/
import Derived.Test.YtipcmkcllibnfaaDoorCut
namespace Go.Proofs.YtipcmkcllibnfaaDoor.Oct
open Go.RowKit
set_option linter.unusedVariables false

/-- What Read8 answers. -/
def readE (s : ByteArray) : Int := match r8 s.toList with | none => 6 | some _ => 0
def readA (s : ByteArray) : ByteArray := match r8 s.toList with | none => bOf [] | some p => bOf p.1
def readB (s : ByteArray) : ByteArray := match r8 s.toList with | none => bOf [] | some p => bOf p.2
theorem read_nil : readA (bOf []) = bOf [] ∧ readB (bOf []) = bOf [] ∧ readE (bOf []) = 6 := by simp [readA, readB, readE, toList_bOf, r8]
theorem read_none (s : ByteArray) (h : r8 s.toList = none) : readA s = bOf [] ∧ readB s = bOf [] ∧ readE s = 6 := by simp [readA, readB, readE, h]
theorem read_some (s : ByteArray) (t r : List UInt8) (h : r8 s.toList = some (t, r)) : readA s = bOf t ∧ readB s = bOf r ∧ readE s = 0 := by simp [readA, readB, readE, h]
theorem ex_cons (s : ByteArray) (h : 0 < s.size) : ∃ c l, s = bOf (c :: l) := by
  rcases hl : s.toList with _ | ⟨c, l⟩
  · have := size_toList s
    rw [hl, List.length_nil] at this
    omega
  · exact ⟨c, l, by rw [← hl, bOf_toList]⟩
theorem read_cut (s : ByteArray) (h : 0 < s.size) : cutA (s.extract 1 s.size) (s[0].toNat : Int) = readA s ∧ cutB (s.extract 1 s.size) (s[0].toNat : Int) = readB s ∧ cutE (s.extract 1 s.size) (s[0].toNat : Int) = readE s := by
  obtain ⟨c, l, rfl⟩ := ex_cons s h
  have hc : (bOf (c :: l))[0] = c := rfl
  rw [extract_rest, toList_bOf, hc]
  unfold readA readB readE cutA cutB cutE
  simp only [List.drop_succ_cons, List.drop_zero]
  rw [toList_bOf, toList_bOf, size_bOf]
  simp only [r8]
  have h0 : ¬ ((c.toNat : Int) < 0) := by omega
  simp only [if_neg h0]
  by_cases h : l.length < c.toNat
  · simp [h]
  · simp [h]

theorem wrap64_u8 (b : UInt8) : wrap64 (b.toNat : Int) = (b.toNat : Int) := by
  have := b.toNat_lt
  simp only [wrap64]
  omega

set_option maxHeartbeats 400000 in
set_option maxRecDepth 100000 in
theorem read8_any (s : ByteArray) (w : World) (hs : s.size ≤ maxLen) :
    Calls Tryd.prog 28 #[.string s] w fun e w' => e = .returned (.tuple #[.string (readA s), .string (readB s), .int .i64 (readE s)]) ∧ ∃ k, w' = w.drewN k := by
  by_cases h0 : 0 < s.size
  · have H := Lib.hid (read_cut s h0)
    have hz : (s.extract 1 s.size).size ≤ maxLen := by rw [extract_rest, size_bOf, List.length_drop, ← size_toList]; omega
    have Hz := Lib.hid hz; clear hz
    have h1 : s.toList.isEmpty = false := by
      obtain ⟨c, l, rfl⟩ := ex_cons s h0
      rw [toList_bOf]; rfl
    have h2 : (1 : Int) ≤ s.size := by omega
    unfold maxLen at hs
    rw [← H.out.1, ← H.out.2.1, ← H.out.2.2]
    go_enter Tryd.func28, Tryd.ntmps28
    go_wp2
    go_quiet ((go_at_call 38; exact Calls.quiet_of (cut_any _ _ _ Hz.out)))
    go_wp2
    go_ret3
    refine ⟨?_, nq, rfl⟩
    simp only [wrap64_u8]
    rfl
  · obtain rfl : s = bOf [] := by
      have := size_toList s
      exact toList_inj (by rw [toList_bOf]; exact List.eq_nil_of_length_eq_zero (by omega))
    rw [read_nil.1, read_nil.2.1, read_nil.2.2]
    have h1 : (bOf []).toList = [] := toList_bOf []
    have h2 : (bOf []).toList.isEmpty = true := by rw [toList_bOf]; rfl
    go_enter Tryd.func28, Tryd.ntmps28
    go_wp2
    go_ret3
    exact ⟨rfl, 0, rfl⟩

set_option maxHeartbeats 400000 in
set_option maxRecDepth 100000 in
theorem rread8_any (s : ByteArray) (w : World) (hs : s.size ≤ maxLen) :
    Calls Tryd.prog 29 #[.string s] w fun e w' => e = .returned (.tuple #[.string (readA s), .string (readB s), .int .i64 (readE s)]) ∧ ∃ k, w' = w.drewN k := by
  by_cases h0 : 0 < s.size
  · have h1 : s.toList.isEmpty = false := by
      obtain ⟨c, l, rfl⟩ := ex_cons s h0
      rw [toList_bOf]; rfl
    unfold maxLen at hs
    by_cases h3 : (s.size : Int) < 1 + (s[0].toNat : Int)
    · have H : Hid (readA s = bOf [] ∧ readB s = bOf [] ∧ readE s = 6) := by
        obtain ⟨c, l, rfl⟩ := ex_cons s h0
        have hc : (bOf (c :: l))[0] = c := rfl
        rw [hc, size_bOf, List.length_cons] at h3
        exact read_none _ (by rw [toList_bOf]; simp only [r8]; rw [if_pos (by omega)])
      rw [H.out.1, H.out.2.1, H.out.2.2]
      have hw1 := wrap64_u8 s[0]
      have hw2 := Lib.hid (UInt8.toNat_lt s[0])
      have hw3 : (s[0].toNat : Int) ≤ 255 := by have := hw2.out; omega
      have hw4 : (0 : Int) ≤ (s[0].toNat : Int) := by omega
      go_enter Tryd.func29, Tryd.ntmps29
      go_wp2
      go_ret3
      exact ⟨rfl, 0, rfl⟩
    · have H : Hid (s.extract 1 (1 + s[0].toNat) = readA s ∧ s.extract (1 + s[0].toNat) s.size = readB s ∧ readE s = 0) := by
        obtain ⟨c, l, rfl⟩ := ex_cons s h0
        have hc : (bOf (c :: l))[0] = c := rfl
        rw [hc, size_bOf, List.length_cons] at h3
        have hr := read_some (bOf (c :: l)) (l.take c.toNat) (l.drop c.toNat) (by rw [toList_bOf]; simp only [r8]; rw [if_neg (by omega)])
        rw [hc, hr.1, hr.2.1, hr.2.2, extract_bOf, extract_rest, toList_bOf, Nat.add_comm 1 c.toNat]
        exact ⟨by simp, by simp, rfl⟩
      rw [← H.out.1, ← H.out.2.1, H.out.2.2]
      have hw1 := wrap64_u8 s[0]
      have hw2 := Lib.hid (UInt8.toNat_lt s[0])
      have hw3 : (s[0].toNat : Int) ≤ 255 := by have := hw2.out; omega
      have hw4 : (0 : Int) ≤ (s[0].toNat : Int) := by omega
      have hw5 : wrap64 (1 + (s[0].toNat : Int)) = 1 + (s[0].toNat : Int) := by simp only [wrap64]; omega
      have hw6 : (1 + (s[0].toNat : Int)).toNat = 1 + s[0].toNat := by omega
      have hw7 : (1 + (s[0].toNat : Int)) ≤ s.size := by omega
      clear h3
      go_enter Tryd.func29, Tryd.ntmps29
      go_wp2
      go_quiet (fail)
      go_wp2
      go_ret3
      exact ⟨rfl, nq, rfl⟩
  · obtain rfl : s = bOf [] := by
      have := size_toList s
      exact toList_inj (by rw [toList_bOf]; exact List.eq_nil_of_length_eq_zero (by omega))
    rw [read_nil.1, read_nil.2.1, read_nil.2.2]
    have h1 : (bOf []).toList = [] := toList_bOf []
    have h2 : (bOf []).toList.isEmpty = true := by rw [toList_bOf]; rfl
    go_enter Tryd.func29, Tryd.ntmps29
    go_wp2
    go_ret3
    exact ⟨rfl, 0, rfl⟩
end Go.Proofs.YtipcmkcllibnfaaDoor.Oct
